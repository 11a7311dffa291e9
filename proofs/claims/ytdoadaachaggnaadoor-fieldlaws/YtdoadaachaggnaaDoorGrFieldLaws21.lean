/-
  Texts of my own, put together: E17, F8, T, X2.
-/
import Derived.Test.YtdoadaachaggnaaDoorGrFieldLaws20
import Derived.Test.YtdoadaachaggnaaDoorGrFieldLaws15
import Derived.Test.YtdoadaachaggnaaDoorGrFieldLaws17
import Derived.Test.YtdoadaachaggnaaDoorGrFieldLaws18
import Derived.Test.YtdoadaachaggnaaDoorGrFieldLaws5
import Derived.Lib.LaidTab
import Derived.ChangeShapes
import Derived.Test.YtdoadaachaggnaaDoorGrFieldLaws0
/-
  FieldBytes, over the whole (own work).
-/
set_option linter.unusedSimpArgs false
set_option linter.unusedVariables false
namespace Go.Am.Seat
open Go.Proofs Go.Am Go.Am.Num
set_option maxRecDepth 100000
set_option maxHeartbeats 4000000

def KB : List Fact := [awakeF5]
theorem KB_hold (F : Fact) (h : F ∈ KB) : F.holds E.P mem5 := by
  simp only [KB, List.mem_cons, List.not_mem_nil, or_false] at h
  subst h
  exact awake05
theorem noF_KB : NoF KB := by
  have h : (fieldFs.all fun f => !hasF KB f) = true := by kernel_rfl
  intro f hf
  have := List.all_eq_true.1 h f hf
  simpa using this
theorem awake5_call (x : Mem) : ainv E (runK E mem5 KB 2000) 25 [] (mem5 ++ x) = some (.bool true, mem5 ++ x) := by
  have h : runK E mem5 KB 2000 25 [] mem5 = some (.bool true, mem5) := by kernel_rfl
  exact ainv_lit rfl (by kernel_rfl) (by rw [show ((mem5 ++ x).take E.G).map onlyTab = mem5 from rfl]; exact h) rfl

theorem lawFB (a b : Nat → Nat) (ha : ∀ i, a i < 256) (hb : ∀ i, b i < 256) : ∃ m', runK E mem5 KB 2001 8 [arrK .u8 32 a, arrK .u8 32 b] mem5 = some (.bool true, m') := by
  have hr : runK E mem5 KB 2001 8 [arrK .u8 32 a, arrK .u8 32 b] mem5 = abody E (runK E mem5 KB 2000) 2001 8 [arrK .u8 32 a, arrK .u8 32 b] mem5 := by
    rw [runK]
    simp only [show hasF KB 8 = false from rfl]
  rw [hr]
  exact fb_body ha hb (Nat.le_of_ble_eq_true rfl) rfl awake5_call (fun b hb => L_lo (n := 1997) noF_KB (by omega) b hb) (L_mul (n := 1997) noF_KB (by omega)) (fun X Y hX hY => L_ad (n := 1997) noF_KB X Y hX hY) (fun X => L_by (n := 1999) noF_KB (by omega) X) (fun X hX => L_pa (n := 1996) noF_KB (by omega) X hX) (fun X Y hX hY => L_sm (n := 1999) noF_KB X Y hX hY)
    (fun X hX => L_ng1 (n := 1999) noF_KB X hX) (fun X hX => L_ng (n := 1997) noF_KB X hX) (fun X hX => L_ab (n := 1996) noF_KB X hX)

/-- Bytes of an argument. -/
def fn8 (l : List Int) (i : Nat) : Nat := (l.getD i 0).toNat
theorem wf_u8 {n : Int} (h : (Lit.int .u8 n).wf = true) : 0 ≤ n ∧ n < 256 := by
  unfold Lit.wf at h
  simp only [Bool.and_eq_true, decide_eq_true_eq] at h
  have h1 : IntKind.u8.min = 0 := by decide
  have h2 : IntKind.u8.max = 255 := by decide
  rw [h1, h2] at h
  omega
theorem fn8_lt {l : List Int} (h : ∀ n, n ∈ l → (Lit.int .u8 n).wf = true) (i : Nat) : fn8 l i < 256 := by
  unfold fn8
  by_cases hi : i < l.length
  · have := wf_u8 (h l[i] (List.getElem_mem hi))
    simp only [List.getD_eq_getElem?_getD, List.getElem?_eq_getElem hi, Option.getD_some]
    omega
  · rw [List.getD_eq_getElem?_getD, List.getElem?_eq_none (by omega)]
    decide
theorem bytes_arr {l : List Int} (hl : l.length = 32) (h : ∀ n, n ∈ l → (Lit.int .u8 n).wf = true) : Value.agg ⟨l.map (Value.int .u8)⟩ = arrK .u8 32 (fn8 l) := by
  unfold arrK
  congr 2
  apply List.ext_getElem?
  intro j
  by_cases hj : j < 32
  · have hg : l[j]? = some l[j] := by simp [hl, hj]
    rw [rowK_get hj, List.getElem?_map, hg]
    have := wf_u8 (h l[j] (by simp))
    unfold fn8
    rw [List.getD_eq_getElem?_getD, hg]
    show some (Value.int .u8 l[j]) = some (Value.int .u8 ((l[j].toNat : Nat) : Int))
    rw [Int.toNat_of_nonneg this.1]
  · rw [List.getElem?_eq_none (by rw [List.length_map, hl]; omega), List.getElem?_eq_none (by rw [rowK_length]; omega)]

theorem lawFBw (a : List Int) (la : a.length = 32) (wa : ∀ n, n ∈ a → (Lit.int .u8 n).wf = true) (b : List Int) (lb : b.length = 32) (wb : ∀ n, n ∈ b → (Lit.int .u8 n).wf = true) :
    ∃ m', runK E mem5 KB 2001 8 [.agg ⟨a.map (.int .u8)⟩, .agg ⟨b.map (.int .u8)⟩] mem5 = some (.bool true, m') := by
  rw [bytes_arr la wa, bytes_arr lb wb]
  exact lawFB (fn8 a) (fn8 b) (fn8_lt wa) (fn8_lt wb)
end Go.Am.Seat

/-
  FieldLaws, over the whole (own work).
-/
set_option linter.unusedSimpArgs false
set_option linter.unusedVariables false
namespace Go.Am.Seat
open Go.Proofs Go.Am Go.Am.Num
set_option maxRecDepth 100000
set_option maxHeartbeats 4000000

theorem more5 : Go.Am.more mem5 mem5r = true := by kernel_rfl
theorem KR_hold (F : Fact) (h : F ∈ KB) : F.holds E.P mem5r := Fact.more more5 (KB_hold F h)
theorem awake5r_call (x : Mem) : ainv E (runK E mem5r KB 2000) 25 [] (mem5r ++ x) = some (.bool true, mem5r ++ x) := by
  have h : runK E mem5r KB 2000 25 [] mem5r = some (.bool true, mem5r) := by kernel_rfl
  exact ainv_lit rfl (by kernel_rfl) (by rw [show ((mem5r ++ x).take E.G).map onlyTab = mem5r from rfl]; exact h) rfl
theorem froot_gen (x : Fe) (a b : Nat) : ef (fmul (fpw (fpw x a) b) x) = el (pw (pw x.1 a) b * x.1 % P25519) := rfl
section
variable {MM : Mem} {K : List Fact} (hK : NoF K) {n : Nat}
include hK
theorem feOk (h : 1000 ≤ n) : FeOk (runK E MM K (n + 10)) where
  mul := fun x y M => L_mul (n := n + 7) hK (by omega) x.1 y.1 x.2 y.2 M
  sq := fun x M => L_sq (n := n + 6) hK (by omega) x.1 x.2 M
  rt := fun x M => ans_of (args := [ef x]) (v := ef (froot x)) rfl (by kernel_rfl) rfl (fun m => by
    rw [rk hK (by decide)]
    unfold froot
    rw [froot_gen]
    exact rt_body x.2 (L_mul (n := n + 6) hK (by omega)) (L_ss (n := n + 4) hK (by omega)) (L_on (n := n + 3) hK (by omega) x.1 x.2)) M
  fi := fun M hM => ans_ofR (args := []) (v := ef fI) rfl (by kernel_rfl) rfl (by
    rw [rk hK (by decide)]
    exact fi_body) M hM
  ab := fun x M hM => L_ab (n := n + 6) hK x.1 x.2 M hM.tab
  ng := fun x M hM => L_ng (n := n + 7) hK x.1 x.2 M hM.tab
theorem L_ra (h : 1000 ≤ n) (u v : Fe) : AnsR (runK E MM K (n + 11)) 52 [ef u, ef v] (.tuple ⟨[ef (fabs (rend u v)), .bool (rok u v)]⟩) := ans_ofR rfl (by kernel_rfl) rfl (by
  rw [rk hK (by decide)]
  exact ra_body (feOk hK h) u v)
end

def rowB (a : Nat → Nat) : Blk := .row false 46 (rowK .u8 32 a)
theorem boxB (a : Nat → Nat) (m : Mem) : abox E.P 46 (arrK .u8 32 a) m = some (.pointer (some ⟨m.length, 0, none⟩), m ++ [rowB a]) := a46.box (w := a) (m := m)
theorem loadB {m : Mem} {p : Nat} {a : Nat → Nat} (h : m[p]? = some (rowB a)) : aload E.P 46 (.pointer (some ⟨p, 0, none⟩)) (m.map sealed) = some (arrK .u8 32 a) := a46.load (ro := true) (be := 46) (by rw [List.getElem?_map, h]; rfl)
def lfe (b : Nat → Nat) : Fe := ⟨looseF b, looseF_lt b⟩

theorem lawFL (a b c : Nat → Nat) (ha : ∀ i, a i < 256) (hb : ∀ i, b i < 256) (hc : ∀ i, c i < 256) : ∃ m', runK E mem5r KB 2001 7 [arrK .u8 32 a, arrK .u8 32 b, arrK .u8 32 c] mem5r = some (.bool true, m') := by
  have hr : runK E mem5r KB 2001 7 [arrK .u8 32 a, arrK .u8 32 b, arrK .u8 32 c] mem5r = abody E (runK E mem5r KB 2000) 2001 7 [arrK .u8 32 a, arrK .u8 32 b, arrK .u8 32 c] mem5r := by
    rw [runK]
    simp only [show hasF KB 7 = false from rfl]
  rw [hr]
  have haw := awake5r_call
  have hok : FeOk (runK E mem5r KB 2000) := feOk (n := 1990) noF_KB (by omega)
  have hra := L_ra (MM := mem5r) (n := 1989) noF_KB (by omega)
  have hlo := fun b (hb : ∀ i, b i < 256) => L_lo (MM := mem5r) (n := 1997) noF_KB (by omega) b hb
  have hfo := L_fo (MM := mem5r) (n := 1999) noF_KB 1 (by decide)
  have had := fun (x y : Fe) => L_ad (MM := mem5r) (n := 1997) noF_KB x.1 y.1 x.2 y.2
  have hsm := fun (x y : Fe) => L_sm (MM := mem5r) (n := 1999) noF_KB x.1 y.1 x.2 y.2
  have hze := fun (x : Fe) => L_ze (MM := mem5r) (n := 1999) noF_KB x.1 x.2
  have hsb := fun (x y : Fe) => L_sb (MM := mem5r) (n := 1996) noF_KB x.1 y.1 x.2 y.2
  have hiv := fun (x : Fe) => L_iv (MM := mem5r) (n := 1993) noF_KB (by omega) x.1 x.2
  generalize runK E mem5r KB 2000 = self at *
  rw [abody_eqF (by kernel_rfl) Tryd.func7 bodyfw (by kernel_rfl) (Nat.le_of_ble_eq_true rfl)]
  rw [show Tryd.f7.ntmps = 145 from rfl]
  obtain ⟨D0, hD0⟩ : ∃ D, D = ((mem5r ++ [rowB a]) ++ [rowB b]) ++ [rowB c] := ⟨_, rfl⟩
  obtain ⟨G0, r0, a3, a4, a5⟩ := fw0 (self := self) (nf := 2001) (F := init [arrK .u8 32 a, arrK .u8 32 b, arrK .u8 32 c]) (B := D0) rfl rfl rfl (boxB a mem5r) (boxB b _) (by rw [hD0]; exact boxB c _)
  have a3 : G0 3 = .pointer (some ⟨8, 0, none⟩) := a3
  have a4 : G0 4 = .pointer (some ⟨8 + 1, 0, none⟩) := a4
  have a5 : G0 5 = .pointer (some ⟨8 + 2, 0, none⟩) := a5
  obtain ⟨G1, r1, b3, b4, b5, b14⟩ := fw1 (self := self) (nf := 2001) (F := G0) (B := D0) (by rw [hD0, List.append_assoc, List.append_assoc]; exact haw _)
  have n0 : D0.length = 8 + 3 := by rw [hD0]; rfl
  have hG : E.G = 8 := rfl
  obtain ⟨D1, hD1⟩ : ∃ D, D = D0 ++ [rowE (lfe a), rowE (lfe b), rowE (lfe c)] := ⟨_, rfl⟩
  obtain ⟨G3, r3, c7, c8, c9⟩ := fw3 (self := self) (nf := 2001) (F := G1) (B := D0) (vX := ef (lfe a)) (vY := ef (lfe b)) (vZ := ef (lfe c)) (b3.trans a3) (b4.trans a4) (b5.trans a5) (loadB (by rw [hD0]; rfl)) (loadB (by rw [hD0]; rfl)) (loadB (by rw [hD0]; rfl)) (dlt (by rw [n0]; decide)) (dlt (by rw [n0]; decide)) (dlt (by rw [n0]; decide)) (decide_eq_true (by omega)) (arrK_lit _ _ _) (arrK_lit _ _ _) (arrK_lit _ _ _) (ef_lit _) (ef_lit _) (ef_lit _) (hlo a ha) (hlo b hb) (hlo c hc) (layE _) (layE _) (layE _)
  rw [← hD1] at r3
  rw [n0] at c7 c8 c9
  have n1 : D1.length = 8 + 6 := by rw [hD1, hD0]; rfl
  generalize lfe a = x at *
  generalize lfe b = y at *
  generalize lfe c = z at *
  obtain ⟨D2, hD2⟩ : ∃ D, D = D1 ++ [rowE f1] := ⟨_, rfl⟩
  have hz : (D1 ++ [rowZ]).set (8 + 6) (rowE f1) = D2 := by rw [hD2, hD1, hD0]; rfl
  have bz := allocE D1
  rw [n1] at bz
  have sz := storeZ (m := D1 ++ [rowZ]) (p := 8 + 6) (x := f1) (by rw [hD1, hD0]; rfl)
  rw [hz] at sz
  obtain ⟨G4, r4, d7, d8, d9, d10⟩ := fw4 (self := self) (nf := 2001) (F := G3) (B := D1) (vO := ef f1) (hfo D1) bz sz
  have n2 : D2.length = 8 + 7 := by rw [hD2, hD1, hD0]; rfl
  have gm2 : GM D2 := by rw [hD2, hD1, hD0]; rfl
  obtain ⟨r, hrr⟩ : ∃ r, r = fabs (rend (fmul x x) (fmul y y)) := ⟨_, rfl⟩
  obtain ⟨ok, hok2⟩ : ∃ ok, ok = rok (fmul x x) (fmul y y) := ⟨_, rfl⟩
  have c3 := hra (fmul x x) (fmul y y) (D2.map sealed) gm2.sealed
  rw [← hrr, ← hok2] at c3
  obtain ⟨D3, hD3⟩ : ∃ D, D = D2 ++ [rowE r] := ⟨_, rfl⟩
  obtain ⟨G5, r5, e7, e8, e9, e10, e11, e12⟩ := fw5 (self := self) (nf := 2001) (F := G4) (B := D2) (ok := ok) (vX := ef x) (vY := ef y) (vR := ef r) (d7.trans c7) (d8.trans c8) (loadS (by rw [hD2, hD1, hD0]; rfl)) (loadS (by rw [hD2, hD1, hD0]; rfl)) (dlt (by rw [n2]; decide)) (dlt (by rw [n2]; decide)) (decide_eq_true (by omega)) (ef_lit _) (ef_lit _) (ef_lit _) (ef_lit _) rfl (hok.sq x) (hok.sq y) c3 (layE _)
  rw [← hD3] at r5
  rw [n2] at e11
  have gm3 : GM (D3.map sealed) := by
    have : GM D3 := by rw [hD3, hD2, hD1, hD0]; rfl
    exact this.sealed
  have lx : D3[8 + 3]? = some (rowE x) := by rw [hD3, hD2, hD1, hD0]; rfl
  have ly : D3[8 + 4]? = some (rowE y) := by rw [hD3, hD2, hD1, hD0]; rfl
  have lz : D3[8 + 5]? = some (rowE z) := by rw [hD3, hD2, hD1, hD0]; rfl
  have lo : D3[8 + 6]? = some (rowE f1) := by rw [hD3, hD2, hD1, hD0]; rfl
  have lr : D3[8 + 7]? = some (rowE r) := by rw [hD3, hD2, hD1, hD0]; rfl
  have hq : ∀ (u v : Fe) M, ainv E self 44 [ef u, ef v] M = some (.bool (decide (u = v)), M) := fun u v M => by rw [dec_val]; exact hsm u v M
  have hq0 : ∀ (u : Fe) M, ainv E self 43 [ef u] M = some (.bool (decide (u = f0)), M) := fun u M => by rw [dec_val]; exact hze u M
  obtain ⟨G6, r6, z6⟩ := fw6 (self := self) (nf := 2001) (F := G5) (B := D3) (x := x) (y := y) (z := z) (o := f1) (r := r) (ok := ok) (e7.trans (d7.trans c7)) (e8.trans (d8.trans c8)) (e9.trans (d9.trans c9)) (e10.trans d10) e11 e12 (loadS lx) (loadS ly) (loadS lz) (loadS lo) (loadS lr) (fun u v M => had u v M) hok.mul hq hok.sq hq0 (fun u v => hsb u v _ gm3.tab) (fun u => hok.ng u _ gm3) (fun u => hiv u _ gm3.len) (fun u => hok.ab u _ gm3) (hok.fi _ gm3)
    (decide_eq_true (fadd_comm x y)) (decide_eq_true (fmul_comm x y)) (decide_eq_true (fadd_assoc x y z)) (decide_eq_true (fmul_assoc x y z)) (decide_eq_true (fmul_add x y z)) (decide_eq_true (fadd_sub x y)) (decide_eq_true (fneg_add x)) (decide_eq_true (fmul_one x)) rfl rfl rfl
    (fun h => decide_eq_true (finv (of_decide_eq_false h))) (fun h => by rw [hok2]; exact (ratio_sq x y (of_decide_eq_false h)).1) rfl (fun h => decide_eq_true (by rw [hrr]; exact (ratio_sq x y (of_decide_eq_false h)).2)) (decide_eq_true fI_sq)
  generalize Code.region 0 rfw_0 false = C0 at *
  generalize Code.region 1 rfw_1 false = C1 at *
  generalize Code.region 3 rfw_3 true = C3 at *
  generalize Code.region 4 rfw_4 false = C4 at *
  generalize Code.region 5 rfw_5 true = C5 at *
  generalize Code.region 6 rfw_6 true = C6 at *
  simp only [acodeN, r0, r1, ev, nth_lst, Nat.reduceLT, reduceIte, b14, r3, r4, r5, r6, finish, ares, aresL, ares1, Tryd.f7, z6]
  exact ⟨_, rfl⟩

theorem lawFLw (a : List Int) (la : a.length = 32) (wa : ∀ n, n ∈ a → (Lit.int .u8 n).wf = true) (b : List Int) (lb : b.length = 32) (wb : ∀ n, n ∈ b → (Lit.int .u8 n).wf = true) (c : List Int) (lc : c.length = 32) (wc : ∀ n, n ∈ c → (Lit.int .u8 n).wf = true) :
    ∃ m', runK E mem5r KB 2001 7 [.agg ⟨a.map (.int .u8)⟩, .agg ⟨b.map (.int .u8)⟩, .agg ⟨c.map (.int .u8)⟩] mem5r = some (.bool true, m') := by
  rw [bytes_arr la wa, bytes_arr lb wb, bytes_arr lc wc]
  exact lawFL (fn8 a) (fn8 b) (fn8 c) (fn8_lt wa) (fn8_lt wb) (fn8_lt wc)
end Go.Am.Seat

/-
  The abstract memory at a law's start: tables that are laid, and package variables of which nothing is said (own work; nothing of a dump).
-/
set_option linter.unusedSimpArgs false
set_option linter.unusedVariables false
namespace Go.Am
noncomputable section

def ren0 (P : Program) (m : Mem) : Ren := fun k => match m[k]? with
  | some (.tab e cs) => some ⟨k, cs.length, ((P.info? e).map (·.size)).getD 0⟩
  | some _ => some ⟨k, 0, 0⟩
  | none => none

/-- What is asked of a block. -/
def BlkAt (P : Program) (W : World) (k : Nat) : Blk → Prop
  | .dead => True
  | .tab e cs => W.heap[k]? = some (.cells ⟨cs⟩ e (0, 0)) ∧ (P.info? e).isSome = true ∧ cs.all lit0 = true
  | .row .. => False

theorem mr_tabs {P : Program} {m : Mem} {W : World} (hG : P.globals.size ≤ m.length) (hsize : m.length ≤ W.heap.size) (hb : ∀ k b, m[k]? = some b → BlkAt P W k b) : MR P (ren0 P m) m W := by
  have hr : ∀ k x, ren0 P m k = some x → k < m.length ∧ x.r = k := by
    intro k x h
    unfold ren0 at h
    cases hm : m[k]? with
    | none => rw [hm] at h; cases h
    | some b =>
      have hk : k < m.length := (List.getElem?_eq_some_iff.1 hm).1
      rw [hm] at h
      cases b <;> (cases h; exact ⟨hk, rfl⟩)
  have hs : ∀ k, k < m.length → ∃ x, ren0 P m k = some x ∧ x.r = k := by
    intro k hk
    have hm : m[k]? = some m[k] := by simp [hk]
    cases hq : m[k] with
    | dead => exact ⟨_, by unfold ren0; rw [hm, hq], rfl⟩
    | row ro e cs => exact ⟨_, by unfold ren0; rw [hm, hq], rfl⟩
    | tab e cs => exact ⟨_, by unfold ren0; rw [hm, hq], rfl⟩
  have hl : ∀ k ro e cs, look m k = some (ro, e, cs) → m[k]? = some (.tab e cs) := by
    intro k ro e cs h
    unfold look at h
    split at h
    · rename_i b hm
      have := hb k b hm
      cases b with
      | dead => simp [Blk.cells?] at h
      | row => exact absurd this id
      | tab e' cs' =>
        simp [Blk.cells?] at h
        obtain ⟨_, rfl, rfl⟩ := h
        exact hm
    · cases h
  refine ⟨fun k hk => ?_, fun k x h => ?_, fun g hg => hs g (by omega), fun k ro e cs h => ?_, fun k e cs k' ro' e' cs' x x' h => ?_, fun k e cs h => ?_⟩
  · unfold ren0
    rw [List.getElem?_eq_none hk]
  · obtain ⟨h1, h2⟩ := hr k x h
    omega
  · have hm := hl k ro e cs h
    obtain ⟨h1, h2, h3⟩ := hb k _ hm
    refine ⟨⟨k, cs.length, ((P.info? e).map (·.size)).getD 0⟩, ⟨cs⟩, (0, 0), by unfold ren0; rw [hm], h1, rfl, Nat.le_refl _, fun i u hu => ⟨u, by simpa using hu, .lit ?_⟩, fun _ => loose_zero _, ?_⟩
    · exact lit2_of_lit1 (lit1_of_lit0 (List.all_eq_true.1 h3 u (List.mem_of_getElem? hu)))
    · cases hi : P.info? e with
      | none => rw [hi] at h2; cases h2
      | some i => rfl
  · exact absurd (hb k _ h) id
  · obtain ⟨_, _, h3⟩ := hb k _ h
    intro v hv
    exact List.all_eq_true.1 h3 v hv

/-- A package variable's block. -/
theorem shaped_at {P : Program} {W : World} (h : W.ShapedOpen P) {g : Nat} {t : TypeId} (hg : g < P.globals.size) (h0 : (((begin P (fun _ _ => 0) default).world.heap[g]?).bind Obj.row?).map (·.2) = some t) :
    ∃ cs, W.heap[g]? = some (.cells cs t (0, 0)) := by
  obtain ⟨⟨z, t'⟩, h1, h2⟩ := Option.map_eq_some_iff.1 h0
  simp only at h2
  subst h2
  obtain ⟨cs, hc, _⟩ := h.1 g z t' hg h1
  exact ⟨cs, hc⟩

theorem tab_at {P : Program} {W : World} {name : String} {k : IntKind} {zs : List Int} {g : Nat} {t : TypeId} {cs : Array Value} (hg : P.globalNamed name = some g) (hc : W.heap[g]? = some (.cells cs t (0, 0))) (h : Lib.TabIs P W name k zs) :
    W.heap[g]? = some (.cells ⟨zs.map (.int k)⟩ t (0, 0)) := by
  unfold Lib.TabIs World.var? at h
  rw [hg] at h
  simp only [Option.bind_some, hc] at h
  cases h
  exact hc

theorem laid_tail {P : Program} {x : String × DataW Unit} {r : List (String × DataW Unit)} {w : World} (h : laidMet P (x :: r) w) : laidMet P r w := by
  obtain ⟨ps, hv, hnd, hrows⟩ := h
  obtain ⟨n, d⟩ := x
  obtain ⟨g, t, cs, fuel, p, q, _, _, _, _, hq, rfl⟩ := hv
  exact ⟨q, hq, List.Nodup.sublist (List.sublist_append_right _ _) hnd, fun b off hm => hrows b off (List.mem_append_right _ hm)⟩

/-- How a law's call ends, seen from outside: what was there stands as it stood. -/
theorem below_of_ends {P : Program} {ρ : Ren} {m m1 : Mem} {w w1 : World} {v : Value} {e : Ending} (hm : ∀ (k : Nat) (e : TypeId) (cs : List Value), m[k]? ≠ some (Blk.row false e cs)) (hv : lit2 v = true) (h : Ends P ρ m w v m1 e w1) : e = .returned v ∧ Go.RowKit.Below w.heap.size w w1 := by
  obtain ⟨v', ρ1, rfl, hvr, _, hx⟩ := h
  refine ⟨?_, ⟨hx.os, hx.tape, hx.output, hx.size, fun r hr => hx.kept r hr fun k e cs _ hk _ => absurd hk (hm k e cs)⟩⟩
  rw [hvr.eq_of_lit2 hv]
end
end Go.Am

/-
  An array of numbers as a law's argument (own work; nothing of a dump).
-/
set_option linter.unusedSimpArgs false
set_option linter.unusedVariables false
namespace Go.Am
theorem mapM_spec {α β : Type} (f : α → Option β) : ∀ (l : List α) (xs : List β), l.mapM f = some xs → xs.length = l.length ∧ ∀ (i : Nat) (a : α), l[i]? = some a → ∃ x, xs[i]? = some x ∧ f a = some x
  | [], xs, h => by
    simp only [List.mapM_nil, Option.pure_def, Option.some.injEq] at h
    subst h
    exact ⟨rfl, fun i a ha => by simp at ha⟩
  | b :: l, xs, h => by
    simp only [List.mapM_cons, Option.pure_def, Option.bind_eq_bind] at h
    obtain ⟨x, hx, h⟩ := Option.bind_eq_some_iff.1 h
    obtain ⟨ys, hy, h⟩ := Option.bind_eq_some_iff.1 h
    cases h
    obtain ⟨h1, h2⟩ := mapM_spec f l ys hy
    refine ⟨by simp [h1], fun i a ha => ?_⟩
    cases i with
    | zero => simp at ha; subst ha; exact ⟨x, rfl, hx⟩
    | succ i => simp at ha; simpa using h2 i a ha
theorem mapM_mk {α β : Type} {f : α → Option β} {g : α → β} : ∀ (l : List α), (∀ a, a ∈ l → f a = some (g a)) → l.mapM f = some (l.map g)
  | [], _ => rfl
  | b :: l, h => by
    simp only [List.mapM_cons, Option.pure_def, Option.bind_eq_bind, List.map_cons]
    rw [h b (by simp), mapM_mk l fun a ha => h a (by simp [ha])]
    rfl
theorem take_one {α : Type} {l : List α} {i : Nat} (h : i < l.length) : (l.drop i).take 1 = [l[i]] := by
  rw [List.drop_eq_getElem_cons h]
  rfl

variable {H : Type} {enc : TypeId × Value → H} {P : Program} {W : World} {base : Nat} {spare : Nat → Bool} {held : Bool}

theorem open_arr {r : Reach} {b0 : Nat} {t e : TypeId} {n : Nat} {k : IntKind} {v : Value} {d : DataW H} {ps : List MemPlace} (ht : P.underlying t = some (.array n e)) (he : P.underlying e = some (.int k)) (hc : P.cellsOf t = n) (hce : P.cellsOf e = 1)
    (hval : Value.okWide P W r b0 t v) (hd : DataW.Trod enc P W base spare held t v d ps) :
    ∃ l : List Int, l.length = n ∧ v = .agg ⟨l.map (.int k)⟩ ∧ d = .agg (l.map fun x => .lit (.int k x)) ∧ ps = [] ∧ ∀ x, x ∈ l → (Lit.int k x).wf = true := by
  unfold Value.okWide at hval
  simp only [ht] at hval
  obtain ⟨⟨cs⟩, rfl, hsz, _⟩ := hval
  have hlen : cs.length = n := by rw [hc] at hsz; simpa using hsz
  obtain ⟨fuel, hf⟩ := hd
  cases fuel with
  | zero => simp [DataW.trod] at hf
  | succ fuel =>
    unfold DataW.trod at hf
    simp only [ht, Value.cells, hlen, hc, hce, if_true, Nat.mul_one] at hf
    obtain ⟨xs, hx, hd⟩ := Option.map_eq_some_iff.1 hf
    obtain ⟨h1, h2⟩ := mapM_spec _ _ _ hx
    have hxl : xs.length = n := by rw [h1]; simp
    have key : ∀ i, i < n → ∃ x : Int, cs[i]? = some (.int k x) ∧ xs[i]? = some (.lit (.int k x), []) ∧ (Lit.int k x).wf = true := by
      intro i hi
      obtain ⟨x, hx1, hx2⟩ := h2 i i (List.getElem?_range hi)
      rw [take_one (by omega)] at hx2
      obtain ⟨y, g, rfl, w⟩ := DataW.trod_int he hx2
      simp only [List.cons.injEq, and_true] at g
      exact ⟨y, by rw [← g]; simp [hlen, hi], hx1, w⟩
    let l : List Int := cs.map fun v => match v with | .int _ x => x | _ => 0
    have hl : l.length = n := by simp [l, hlen]
    have hget : ∀ i, i < n → ∃ x : Int, l[i]? = some x ∧ cs[i]? = some (.int k x) ∧ xs[i]? = some (.lit (.int k x), []) ∧ (Lit.int k x).wf = true := by
      intro i hi
      obtain ⟨x, a1, a2, a3⟩ := key i hi
      exact ⟨x, by simp [l, a1], a1, a2, a3⟩
    have e1 : cs = l.map (.int k) := by
      apply List.ext_getElem?
      intro i
      by_cases hi : i < n
      · obtain ⟨x, a0, a1, _⟩ := hget i hi
        rw [a1, List.getElem?_map, a0]; rfl
      · rw [List.getElem?_eq_none (by omega), List.getElem?_eq_none (by simp; omega)]
    have e2 : xs = l.map fun x => (.lit (.int k x), []) := by
      apply List.ext_getElem?
      intro i
      by_cases hi : i < n
      · obtain ⟨x, a0, _, a2, _⟩ := hget i hi
        rw [a2, List.getElem?_map, a0]; rfl
      · rw [List.getElem?_eq_none (by omega), List.getElem?_eq_none (by simp; omega)]
    have e3 : (l.map fun x => ((.lit (.int k x), []) : DataW H × List MemPlace)).flatMap (·.2) = [] := by
      rw [List.flatMap_map]
      simp
    rw [e2] at hd
    simp only [Prod.mk.injEq] at hd
    obtain ⟨d1, d2⟩ := hd
    refine ⟨l, hl, by rw [e1], ?_, ?_, ?_⟩
    · rw [← d1, List.map_map]; rfl
    · rw [← d2]; exact e3
    · intro x hx
      obtain ⟨i, hi, rfl⟩ := List.mem_iff_getElem.1 hx
      obtain ⟨y, a0, _, _, a3⟩ := hget i (by omega)
      rw [List.getElem?_eq_getElem hi] at a0
      cases a0
      exact a3

theorem shut_arr {t e : TypeId} {n : Nat} {k : IntKind} {l : List Int} (ht : P.underlying t = some (.array n e)) (he : P.underlying e = some (.int k)) (hc : P.cellsOf t = n) (hce : P.cellsOf e = 1) (hl : l.length = n) (hw : ∀ x, x ∈ l → (Lit.int k x).wf = true) :
    DataW.Trod enc P W base spare held t (.agg ⟨l.map (.int k)⟩) (.agg (l.map fun x => .lit (.int k x))) [] := by
  refine ⟨2, ?_⟩
  unfold DataW.trod
  simp only [ht, Value.cells, List.length_map, hl, hc, hce, if_true, Nat.mul_one]
  have h : (List.range n).mapM (fun i => DataW.trod enc P W base spare held 1 e (List.take 1 (List.drop i (l.map (Value.int k))))) = some ((List.range n).map fun i => ((.lit (.int k (l.getD i 0)), []) : DataW H × List MemPlace)) := by
    refine mapM_mk _ fun i hi => ?_
    have hi' : i < l.length := by rw [hl]; exact List.mem_range.1 hi
    rw [take_one (by simpa using hi')]
    have hg : l.getD i 0 = l[i] := by simp [hi']
    rw [hg]
    simp only [List.getElem_map, DataW.trod, he, hw l[i] (List.getElem_mem hi'), and_self, if_true]
  rw [h]
  have e1 : (List.range n).map (fun i => (DataW.lit (.int k (l.getD i 0)) : DataW H)) = l.map fun x => .lit (.int k x) := by
    apply List.ext_getElem?
    intro i
    by_cases hi : i < n
    · have hi' : i < l.length := by omega
      simp [hi, hi']
    · rw [List.getElem?_eq_none (by simp; omega), List.getElem?_eq_none (by simp; omega)]
  have e2 : ((List.range n).map fun i => ((.lit (.int k (l.getD i 0)), []) : DataW H × List MemPlace)).flatMap (·.2) = [] := by
    rw [List.flatMap_map]
    simp
  simp only [Option.map_some, List.map_map]
  rw [e2]
  congr 3
end Go.Am
