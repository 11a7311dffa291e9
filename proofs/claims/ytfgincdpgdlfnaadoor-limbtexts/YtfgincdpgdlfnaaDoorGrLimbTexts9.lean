/-
  The abstract machine of this seat's program: what is told of it holds (own work).
-/
import Derived.Test.YtfgincdpgdlfnaaDoorGrLimbTexts8
import Derived.Laws.Externs
import Derived.Lib.MakeNoZero
set_option linter.unusedSimpArgs false
set_option linter.unusedVariables false
set_option maxRecDepth 100000
namespace Go.Am.Seat
open Go.Proofs Go.Am
set_option maxRecDepth 1000000
theorem fastOK : FastOK E := by
  intro g F args v hF hv w
  simp only [E] at hF
  split at hF
  · rename_i hg
    subst hg
    cases hF
    unfold repeatF at hv
    split at hv
    · rename_i s n
      split at hv
      · rename_i hn
        obtain ⟨h0, h1, h2⟩ := hn
        cases hv
        obtain ⟨k, rfl⟩ := Int.eq_ofNat_of_zero_le h0
        have hk : k ≤ 4096 := by omega
        have := Any.strings_Repeat Tryd.lays105 Tryd.Builder_Extra_105 s k w (by omega) (by
          have := Nat.mul_le_mul h2 hk
          omega)
        exact this
      · cases hv
    · cases hv
  · cases hF
theorem numOK : noNum Tryd.prog := by
  have h : Tryd.prog.funcs.toList.all (fun fn => !(fn.name == "runtime.NumGoroutine")) = true := by kernel_rfl
  intro g fn hfn
  have hm : fn ∈ Tryd.prog.funcs.toList := by
    rw [← Array.getElem?_toList] at hfn
    exact List.mem_of_getElem? hfn
  simpa using List.all_eq_true.1 h fn hm
def goodB (P : Program) (wr : FuncId → Bool) (sr mk : Nat → Array Oper → Bool) (good : FuncId → Bool) : List Func → Nat → Bool
  | [], _ => true
  | fn :: l, i => (match good i with
    | true => match fn.body with
      | some c => codeOk P wr sr mk c
      | none => true
    | false => true) && goodB P wr sr mk good l (i + 1)
theorem goodB_spec {P : Program} {wr : FuncId → Bool} {sr mk : Nat → Array Oper → Bool} {good : FuncId → Bool} : ∀ (l : List Func) (i : Nat), goodB P wr sr mk good l i = true → ∀ (j : Nat) (fn : Func) (c : Code), good (i + j) = true → l[j]? = some fn → fn.body = some c → codeOk P wr sr mk c = true
  | [], i, _, j, fn, c, _, h, _ => by simp at h
  | f0 :: l, i, hb, j, fn, c, hg, h, hc => by
    simp only [goodB, Bool.and_eq_true] at hb
    cases j with
    | zero =>
      simp at h
      subst h
      have h1 := hb.1
      simp only [Nat.add_zero] at hg
      simp only [hg, hc] at h1
      exact h1
    | succ j =>
      simp at h
      exact goodB_spec l (i + 1) hb.2 j fn c (by rw [show i + 1 + j = i + (j + 1) by omega]; exact hg) h hc
theorem goodAll : goodB E.P E.wr E.sr E.mkr E.good Tryd.prog.funcs.toList 0 = true := by kernel_rfl
theorem run_three (P : Program) (s : String) (kx ky kc : IntKind) (x y c : Int) (w : World) (hc : c.toNat ≤ 1) :
    (Extern.MathBitsCarry.three s #[.int kx x, .int ky y, .int kc c]).run P w = .ok (x.toNat, y.toNat, c.toNat) w := by
  have h : ∃ u : Sem (Nat × Nat × Nat), Extern.MathBitsCarry.three s #[.int kx x, .int ky y, .int kc c] = if c.toNat > 1 then u else pure (x.toNat, y.toNat, c.toNat) := ⟨_, rfl⟩
  obtain ⟨u, h⟩ := h
  have hn : ¬ c.toNat > 1 := by omega
  rw [h, if_neg hn]
  rfl
theorem xadd : XIs Tryd.prog 37 .add64 := by
  intro kx ky kc x y c w hc
  rw [run_callFunc_extern Tryd.func37 (by kernel_rfl) (by kernel_rfl) (by kernel_rfl) (e := add64Entry) (by kernel_rfl)]
  simp [add64Entry, run_three _ _ kx ky kc x y c w hc, Extern.MathBitsCarry.pair, Extern.MathBitsCarry.m64, pair64, Result.andThen]
theorem xsame : XIs Tryd.prog 51 .same := by
  intro x w
  rw [run_callFunc_extern Tryd.func51 (by kernel_rfl) (by kernel_rfl) (by kernel_rfl) (e := Extern.AbiNoEscape.same) (by kernel_rfl)]
  rfl
theorem xzero : XIs Tryd.prog 52 (.noZero 5) := by
  refine ⟨by kernel_rfl, fun n w h0 h1 => ?_⟩
  obtain ⟨k, rfl⟩ := Int.eq_ofNat_of_zero_le h0
  obtain ⟨cs, hr, hc, _⟩ := Lib.run_makeNoZero (P := Tryd.prog) w #[3] 41 5 (by kernel_rfl) k (by omega)
  refine ⟨cs.size, w.drawn + 2, cs, by simpa using hc, rfl, ?_⟩
  rw [run_callFunc_extern Tryd.func52 (by kernel_rfl) (by kernel_rfl) (by kernel_rfl) (e := Extern.BytealgMakeNoZero.makeNoZero #[3] #[41]) (by kernel_rfl)]
  rw [hr]
  rfl
theorem envOK : EnvOK E where
  globals := Nat.le_of_ble_eq_true (by kernel_rfl)
  fast := fastOK
  num := numOK
  ext := by
    intro g k hk
    have hk : extF g = some k := hk
    unfold extF at hk
    repeat' split at hk
    all_goals first
      | cases hk; done
      | (rename_i h; subst h; cases hk; first | exact xadd | exact xsame | exact xzero | trivial)
  mixed := by kernel_rfl
  good := by
    intro f fn c hg hfn hc
    refine goodB_spec Tryd.prog.funcs.toList 0 goodAll f fn c (by rw [Nat.zero_add]; exact hg) ?_ hc
    rw [Array.getElem?_toList]
    exact hfn
end Go.Am.Seat
