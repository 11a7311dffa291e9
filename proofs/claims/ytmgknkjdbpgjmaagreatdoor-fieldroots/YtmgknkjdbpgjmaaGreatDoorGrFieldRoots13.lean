/-
  Texts of my own, put together: M6, PA, PB, Y2.
-/
import Derived.Test.YtmgknkjdbpgjmaaGreatDoorGrFieldRoots11
import Derived.Test.YtmgknkjdbpgjmaaGreatDoorGrFieldRoots12
import Derived.Test.YtmgknkjdbpgjmaaGreatDoorGrFieldRoots8
import Derived.Defers
import Derived.Recover
import Derived.Test.YtmgknkjdbpgjmaaGreatDoorGrFieldRoots0
set_option linter.unusedSimpArgs false
set_option linter.unusedVariables false
set_option maxRecDepth 100000
namespace Go.Am.Seat
open Go.Proofs Go.Am
theorem acoll_old {m m1 : Mem} {n b o k c : Nat} (hb : b < n) : acoll m n (.slice (some ⟨b, o, none⟩) k c) m1 = some (.slice (some ⟨b, o, none⟩) k c, m) := by
  unfold acoll
  rw [if_neg (by simp [lit2, lit1, lit0])]
  simp only [partsOf, idsL, idOf, addIds, hb, if_true, closeIds, List.foldl_nil, nodupB, List.all_nil, Bool.and_self, renB, ren3, ren2, ren1, rid, List.append_nil]
theorem idsL_lit {n : Nat} : ∀ (l : List Value) (acc : List Nat), l.all lit0 = true → idsL n l acc = acc
  | [], _, _ => rfl
  | v :: l, acc, h => by
    simp only [List.all_cons, Bool.and_eq_true] at h
    have hv : idOf n v = [] := by
      have h1 := h.1
      cases v with
      | pointer a => cases a with
        | none => rfl
        | some a => simp [lit0] at h1
      | slice a x y => cases a with
        | none => rfl
        | some a => simp [lit0] at h1
      | func fn a b => simp only [lit0] at h1; simp only [idOf, h1, if_true]
      | _ => rfl
    unfold idsL
    rw [hv]
    exact idsL_lit l acc h.2
theorem renL_id {n N : Nat} {keep : List Nat} : ∀ (l : List Value), l.all lit0 = true → renL n N keep l = some l
  | [], _ => rfl
  | v :: l, h => by
    simp only [List.all_cons, Bool.and_eq_true] at h
    have hv : ren1 n N keep v = some v := by
      have h1 := h.1
      cases v with
      | pointer a => cases a with
        | none => rfl
        | some a => simp [lit0] at h1
      | slice a x y => cases a with
        | none => rfl
        | some a => simp [lit0] at h1
      | func fn a b => simp only [lit0] at h1; simp only [ren1, h1, if_true]
      | _ => first | rfl | simp only [ren1, h1, if_true]
    unfold renL
    rw [hv, renL_id l h.2]
theorem acoll_new {m m1 : Mem} {n b o k c : Nat} {ro : Bool} {e : TypeId} {cs : List Value} (hb : n ≤ b) (hm : m1[b]? = some (.row ro e cs)) (hc : cs.all lit0 = true) :
    acoll m n (.slice (some ⟨b, o, none⟩) k c) m1 = some (.slice (some ⟨m.length, o, none⟩) k c, m ++ [.row ro e cs]) := by
  have hnb : ¬ b < n := by omega
  unfold acoll
  rw [if_neg (by simp [lit2, lit1, lit0])]
  have h1 : idsL n (partsOf (.slice (some ⟨b, o, none⟩) k c)) [] = [b] := by
    simp [partsOf, idsL, idOf, addIds, hnb]
  have h2 : closeIds n m1 2 [b] = [b] := by
    simp only [closeIds, List.foldl_cons, List.foldl_nil, hm, idsL_lit cs [b] hc]
  simp only [h1, h2]
  rw [if_pos (by simp [nodupB, hb])]
  have h3 : rid n m.length [b] b = some m.length := by
    unfold rid
    rw [if_neg hnb]
    simp [List.idxOf?]
  simp only [renB, hm, renL_id cs hc, ren3, ren2, ren1, h3]
section
variable {K : List Fact} {k n b : Nat} {M : Mem} {l : List Nat} {w : Nat → Nat} {Z : Mem}
theorem ainv_look {self : Self} {g : FuncId} {args : List Value} {m m1 : Mem} {v : Value} (ha : args.all lit2 = false) (hw : E.wr g = false) (h : self g args (m.map sealed) = some (v, m1)) (hv : lit2 v = true) : ainv E self g args m = some (v, m) := by
  unfold ainv
  rw [ha, hw]
  simp only [Bool.false_eq_true, if_false, h]
  unfold acoll
  rw [if_pos hv]
end
end Go.Am.Seat
namespace Go.Am
noncomputable section
def PPost (D : List Deferred) (P : Program) (ρ : Ren) (m : Mem) (w : World) (pv : Value) (T1 : List Value) (m1 : Mem) (e : Exit) (a1 : Act) (w1 : World) : Prop :=
  ∃ pv' ρ1, e = .panic [{ v := pv', recovered := false }] ∧ a1.defers = D ∧ TR ρ1 T1 a1.tmps ∧ VR ρ1 pv pv' ∧ MR P ρ1 m1 w1 ∧ Ext ρ m w ρ1 m1 w1
theorem PPost.after {D : List Deferred} {P : Program} {ρ ρ1 : Ren} {m m1 m2 : Mem} {w w1 w2 : World} {pv : Value} {T2 : List Value} {e : Exit} {a2 : Act} (hx : Ext ρ m w ρ1 m1 w1) (h : PPost D P ρ1 m1 w1 pv T2 m2 e a2 w2) : PPost D P ρ m w pv T2 m2 e a2 w2 := by
  obtain ⟨pv', ρ2, h1, h2, h3, h4, h5, h6⟩ := h
  exact ⟨pv', ρ2, h1, h2, h3, h4, h5, hx.trans h6⟩
end
end Go.Am
namespace Go.Am
noncomputable section
inductive PS where
  | none
  | live (pv : Value)
  | done
def PS.ok (ρ : Ren) : PS → FrameMode → Prop
  | .none, u => u = .returning
  | .live pv, u => ∃ pv', u = .panicking [{ v := pv', recovered := false }] ∧ VR ρ pv pv'
  | .done, u => ∃ pv', u = .panicking [{ v := pv', recovered := true }]
def SPost (D : List Deferred) (c₀ : Frame) (cs : List Frame) (P : Program) (ρ : Ren) (m : Mem) (w : World) (T1 : List Value) (m1 : Mem) (s1 : PS) (a1 : Act) (cs1 : List Frame) (w1 : World) : Prop :=
  a1.defers = D ∧ ∃ ρ1 u1, cs1 = { c₀ with mode := u1 } :: cs ∧ s1.ok ρ1 u1 ∧ TR ρ1 T1 a1.tmps ∧ MR P ρ1 m1 w1 ∧ Ext ρ m w ρ1 m1 w1
theorem SPost.after {D : List Deferred} {c₀ : Frame} {cs : List Frame} {P : Program} {ρ ρ1 : Ren} {m m1 m2 : Mem} {w w1 w2 : World} {T2 : List Value} {s2 : PS} {a2 : Act} {cs2 : List Frame} (hx : Ext ρ m w ρ1 m1 w1) (h : SPost D c₀ cs P ρ1 m1 w1 T2 m2 s2 a2 cs2 w2) : SPost D c₀ cs P ρ m w T2 m2 s2 a2 cs2 w2 := by
  obtain ⟨h1, ρ2, u2, h2, h3, h4, h5, h6⟩ := h
  exact ⟨h1, ρ2, u2, h2, h3, h4, h5, hx.trans h6⟩
def DefIs (P : Program) (ρ : Ren) (g : FuncId) (dargs : List Value) (d : Deferred) : Prop :=
  ∃ cap : Array Value, d.target = .fn (.func g) cap ∧ TR ρ dargs (d.args ++ cap) ∧ ∀ w : World, (invoke d.target d.args).run P w = .ok (.enter g (d.args ++ cap)) w
theorem DefIs.mono {P : Program} {ρ ρ' : Ren} (hl : ρ.le ρ') {g : FuncId} {dargs : List Value} {d : Deferred} (h : DefIs P ρ g dargs d) : DefIs P ρ' g dargs d := by
  obtain ⟨cap, h1, h2, h3⟩ := h
  exact ⟨cap, h1, h2.mono hl, h3⟩
end
end Go.Am
namespace Go.Am.Seat
open Go.Proofs Go.Am
def lenV (v : Value) : Option Int := match v with
  | .slice none 0 0 => some 0
  | .slice (some _) n _ => some ((n : Nat) : Int)
  | _ => none
theorem lenN0 (ty : TypeId) : apC1 E.P .len #[30] ty (.slice none 0 0) = some (.int .i64 0) := by kernel_rfl
theorem len_N {T : List Value} {m : Mem} {d : Option Tmp} {j : Nat} {ty : TypeId} {pos : String} {af : Array Edge} {g : Option (Nat × Bool)} :
    abuiltin E.P T m { dst := d, op := .call { callee := .builtin .len, args := #[.tmp j], argTypes := #[30] }, type := ty, pos := pos, after := af, guard := g } .len [.tmp j] [30] =
      match lenV (nth T j) with
      | some n => some (.int .i64 n, m)
      | none => (match alen E.P 30 (nth T j) with
        | some v => some (v, m)
        | none => (apure E.P T { dst := d, op := .call { callee := .builtin .len, args := #[.tmp j], argTypes := #[30] }, type := ty, pos := pos, after := af, guard := g }).map (·, m)) := by
  cases h : lenV (nth T j) with
  | none => rfl
  | some n =>
    generalize hv : nth T j = v at h
    unfold lenV at h
    split at h
    · cases h
      simp only [abuiltin, ev, hv, alen, apure_call1, lenN0, lit2, lit1, lit0, if_true, Option.map_some]
    · cases h
      simp only [abuiltin, ev, hv, alen, und27]
    · cases h
theorem abuiltin_app {T : List Value} {m : Mem} {o : Oper} {a b : Operand} {sT xT : TypeId} : abuiltin E.P T m o .append [a, b] [sT, xT] = match aappend E.P sT xT (ev T a) (ev T b) m with
    | some r => some r
    | none => aappendZ E.P sT xT (ev T a) (ev T b) m := rfl
def NumA (m : Mem) (v : Value) (l : List Nat) : Prop := lenV v = some ((l.length : Nat) : Int) ∧
  ∀ (i x : Nat), l[i]? = some x → ∃ b o, aindexAddr E.P 30 v (.int .i64 (i : Nat)) = some (.pointer (some ⟨b, o, none⟩)) ∧ cellAt m b o = some (.int .i64 (x : Nat))
theorem NumA.nil (m : Mem) : NumA m (.slice none 0 0) [] := ⟨rfl, fun i x h => by simp at h⟩
theorem cell_in {m : Mem} {b o : Nat} {v : Value} (h : cellAt m b o = some v) : b < m.length := by
  by_cases hb : b < m.length
  · exact hb
  · have : look m b = none := by
      unfold look
      rw [List.getElem?_eq_none (by omega)]
    unfold cellAt at h
    rw [this] at h
    cases h
theorem cell_same {m m' : Mem} {b : Nat} (h : m'[b]? = m[b]?) (o : Nat) : cellAt m' b o = cellAt m b o := by
  unfold cellAt look
  rw [h]
theorem cell_sealed (m : Mem) (b o : Nat) : cellAt (m.map sealed) b o = cellAt m b o := by
  unfold cellAt look
  rw [List.getElem?_map]
  cases m[b]? with
  | none => rfl
  | some x => cases x <;> rfl
theorem NumA.keep {m m' : Mem} {v : Value} {l : List Nat} (h : NumA m v l) (hk : ∀ k, k < m.length → m'[k]? = m[k]?) : NumA m' v l := by
  refine ⟨h.1, fun i x hx => ?_⟩
  obtain ⟨b, o, h1, h2⟩ := h.2 i x hx
  exact ⟨b, o, h1, by rw [cell_same (hk b (cell_in h2))]; exact h2⟩
theorem NumA.sealed {m : Mem} {v : Value} {l : List Nat} (h : NumA m v l) : NumA (m.map sealed) v l := by
  refine ⟨h.1, fun i x hx => ?_⟩
  obtain ⟨b, o, h1, h2⟩ := h.2 i x hx
  exact ⟨b, o, h1, by rw [cell_sealed]; exact h2⟩
theorem NumA.lit {m : Mem} {v : Value} {l : List Nat} (h : NumA m v l) (hv : lit2 v = true) : v = .slice none 0 0 ∧ l = [] := by
  have h1 := h.1
  unfold lenV at h1
  split at h1
  · simp only [Option.some.injEq] at h1
    exact ⟨rfl, List.eq_nil_of_length_eq_zero (by omega)⟩
  · simp [lit2, lit1, lit0] at hv
  · cases h1
theorem NumA.row {m : Mem} {b n c : Nat} {ro : Bool} {L : List Nat} (h : m[b]? = some (.row ro 3 (cellsN L))) (hn : n ≤ L.length) : NumA m (.slice (some ⟨b, 0, none⟩) n c) (L.take n) := by
  refine ⟨by simp only [lenV, List.length_take, Nat.min_eq_left hn], fun i x hx => ⟨b, i, ?_, ?_⟩⟩
  · have hi : i < n := by
      have := (List.getElem?_eq_some_iff.1 hx).1
      rw [List.length_take] at this
      omega
    exact ix27 hi
  · have hi : i < n := by
      have := (List.getElem?_eq_some_iff.1 hx).1
      rw [List.length_take] at this
      omega
    rw [List.getElem?_take, if_pos hi] at hx
    rw [cellAt_row h, cellsN_get hx]
def NumR (m : Mem) (v : Value) (m' : Mem) (r : Nat) : Prop := (v = .slice none 0 0 ∧ m' = m ∧ r = 0) ∨
  ∃ (L : List Nat) (n : Nat), n ≤ L.length ∧ L.take n = dig r ∧ v = .slice (some ⟨m.length, 0, none⟩) n L.length ∧ m' = m ++ [.row false 3 (cellsN L)] ∧ L ≠ []
theorem NumR.is {m m' : Mem} {v : Value} {r : Nat} (h : NumR m v m' r) : NumA m' v (dig r) := by
  rcases h with ⟨rfl, rfl, rfl⟩ | ⟨L, n, h1, h2, rfl, rfl, hne⟩
  · rw [dig_zero]; exact NumA.nil _
  · rw [← h2]
    exact NumA.row (ro := false) (by simp) h1
theorem NumR.kept {m m' : Mem} {v : Value} {r : Nat} (h : NumR m v m' r) : ∀ k, k < m.length → m'[k]? = m[k]? := by
  rcases h with ⟨rfl, rfl, rfl⟩ | ⟨L, n, h1, h2, rfl, rfl, hne⟩
  · exact fun _ _ => rfl
  · exact fun k hk => List.getElem?_append_left hk
def NumB (B : Nat) (v : Value) (m' : Mem) (r : Nat) : Prop := (v = .slice none 0 0 ∧ r = 0) ∨
  ∃ (L : List Nat) (n b : Nat) (ro : Bool), n ≤ L.length ∧ L.take n = dig r ∧ B ≤ b ∧ v = .slice (some ⟨b, 0, none⟩) n L.length ∧ m'[b]? = some (.row false 3 (cellsN L)) ∧ L ≠ []
theorem cellsN_lits (L : List Nat) : (cellsN L).all lit0 = true := by
  unfold cellsN
  rw [List.all_map, List.all_eq_true]
  intro x _
  rfl
theorem NumB.coll {m m1 : Mem} {B : Nat} {v : Value} {r : Nat} (h : NumB B v m1 r) : ∃ v' m', acoll m B v m1 = some (v', m') ∧ NumR m v' m' r := by
  rcases h with ⟨rfl, rfl⟩ | ⟨L, n, b, ro, h1, h2, h3, rfl, h4, hne⟩
  · exact ⟨_, m, by unfold acoll; exact if_pos rfl, .inl ⟨rfl, rfl, rfl⟩⟩
  · exact ⟨_, _, acoll_new h3 h4 (cellsN_lits L), .inr ⟨L, n, h1, h2, rfl, rfl, hne⟩⟩
theorem num2_call {self : Self} {g : FuncId} {m : Mem} {a b : Value} {la lb : List Nat} {r : Nat} (hf : E.fast g = none) (hw : E.wr g = false) (ha : NumA m a la) (hb : NumA m b lb)
    (h : ∀ M : Mem, NumA M a la → NumA M b lb → ∃ v m1, self g [a, b] M = some (v, m1) ∧ NumB M.length v m1 r) : ∃ v m', ainv E self g [a, b] m = some (v, m') ∧ NumR m v m' r := by
  unfold ainv
  by_cases hl : ([a, b].all lit2) = true
  · rw [if_pos hl, hf]
    simp only [List.all_cons, List.all_nil, Bool.and_true, Bool.and_eq_true] at hl
    obtain ⟨rfl, rfl⟩ := ha.lit hl.1
    obtain ⟨rfl, rfl⟩ := hb.lit hl.2
    obtain ⟨v, m1, h1, h2⟩ := h ((m.take E.G).map onlyTab) (NumA.nil _) (NumA.nil _)
    simp only [h1]
    exact h2.coll
  · rw [if_neg hl, hw]
    obtain ⟨v, m1, h1, h2⟩ := h (m.map sealed) ha.sealed hb.sealed
    simp only [Bool.false_eq_true, if_false, h1]
    exact h2.coll
def GN (B : Nat) (m : Mem) (v : Value) (L : List Nat) : Prop := (L = [] ∧ v = .slice none 0 0) ∨ (∃ b, B ≤ b ∧ v = .slice (some ⟨b, 0, none⟩) L.length L.length ∧ m[b]? = some (.row false 3 (cellsN L)) ∧ L ≠ [])
theorem appN {B : Nat} {m : Mem} {v : Value} {x : Nat} {L : List Nat} (h : GN B m v L) (hB : B ≤ m.length) (hl : L.length ≤ 100000) :
    ∃ v' m', aappend E.P 30 30 v (.slice (some ⟨m.length, 0, none⟩) 1 1) (m ++ [.row false 3 [.int .i64 (x : Nat)]]) = some (v', m') ∧ GN B m' v' (L ++ [x]) ∧ m.length ≤ m'.length ∧ ∀ k, k < B → m'[k]? = m[k]? := by
  obtain ⟨hs, i, z, h1, h2, h3, h4, h5, h6⟩ := rowNum
  have hcs : cellsN (L ++ [x]) = cellsN L ++ [.int .i64 (x : Nat)] := by unfold cellsN; rw [List.map_append]; rfl
  have hsrc : asrc (m ++ [Blk.row false 3 [.int .i64 (x : Nat)]]) 1 (.slice (some ⟨m.length, 0, none⟩) 1 1) = some (1, [.int .i64 (x : Nat)]) := by
    have h : (m ++ [Blk.row false 3 [.int .i64 (x : Nat)]])[m.length]? = some (.row false 3 [.int .i64 (x : Nat)]) := by simp
    unfold asrc
    simp only [lookRow h]
    rfl
  rcases h with ⟨rfl, rfl⟩ | ⟨b, hBb, rfl, hb, hne⟩
  · refine ⟨.slice (some ⟨(m ++ [Blk.row false 3 [.int .i64 (x : Nat)]]).length, 0, none⟩) 1 1, m ++ [.row false 3 [.int .i64 (x : Nat)]] ++ [.row false 3 [.int .i64 (x : Nat)]], ?_, .inr ⟨_, by simp; omega, rfl, by simp [cellsN], by simp⟩, by simp, fun k hk => ?_⟩
    · unfold aappend
      simp only [hs, h1, h2, h3, hsrc, isIntD, h6]
      rw [if_neg (by simp [cellOk, h4]), if_neg (by omega), if_pos (by omega)]
    · rw [List.append_assoc, List.getElem?_append_left (by omega)]
  · have hbm := lt_of_at hb
    have hb2 : (m ++ [Blk.row false 3 [.int .i64 (x : Nat)]])[b]? = some (.row false 3 (cellsN L)) := by rw [List.getElem?_append_left hbm]; exact hb
    refine ⟨.slice (some ⟨(m ++ [Blk.row false 3 [.int .i64 (x : Nat)]]).length, 0, none⟩) (L.length + 1) (L.length + 1), (m ++ [Blk.row false 3 [.int .i64 (x : Nat)]]).set b .dead ++ [.row false 3 (cellsN L ++ [.int .i64 (x : Nat)])], ?_, .inr ⟨m.length + 1, by omega, by simp, by rw [List.getElem?_append_right (by simp), hcs]; simp, by simp⟩, by simp; omega, fun k hk => ?_⟩
    · unfold aappend
      simp only [hs, h1, h2, h3, hsrc, isIntD, h6, hb2]
      have hr : (2 * (L.length + 1) + 768) * i.bytes ≤ 281474976710656 := by
        have : (2 * (L.length + 1) + 768) * i.bytes ≤ (2 * (L.length + 1) + 768) * 8 := Nat.mul_le_mul_left _ h5
        omega
      rw [if_neg (by simp [cellOk, h4]), if_neg (by omega), if_pos ⟨trivial, trivial, by rw [cellsN_length]; omega, hr⟩]
      rw [Nat.mul_one, List.take_of_length_le (by rw [cellsN_length]; omega)]
    · rw [List.getElem?_append_left (by simp; omega), List.getElem?_set_ne (by omega), List.getElem?_append_left (by omega)]
theorem rem256 (s : Nat) : abin .rem .i64 ((s : Nat) : Int) .i64 256 = some (.int .i64 ((s % 256 : Nat) : Int)) := by
  have h : ∀ k : Int, abin .rem .i64 k .i64 256 = some (.int .i64 (k.tmod 256)) := fun k => by kernel_rfl
  rw [h, Int.tmod_eq_emod_of_nonneg (by omega)]
  congr 2
theorem quo256i {s : Nat} (hs : s < 1000000) : abin .quo .i64 ((s : Nat) : Int) .i64 256 = some (.int .i64 ((s / 256 : Nat) : Int)) := by
  have h : ∀ k : Int, abin .quo .i64 k .i64 256 = some (.int .i64 (wrapF .i64 (k.tdiv 256))) := fun k => by kernel_rfl
  rw [h, Int.tdiv_eq_ediv_of_nonneg (by omega), wrap_i64 (by omega) (by omega)]
  congr 2
theorem addNN {a b : Nat} (h : a + b < 1000000000) : wrapF .i64 (((a : Nat) : Int) + ((b : Nat) : Int)) = ((a + b : Nat) : Int) := by rw [wrap_i64 (by omega) (by omega)]; omega
def Runs (R : Nat → Self) (K : List Fact) : Prop := ∀ (n : Nat) (f : FuncId) (args : List Value) (m : Mem) (r : Value × Mem), hasF K f = false → abody E (R n) (n + 1) f args m = some r → R (n + 1) f args m = some r
theorem Runs.b {R : Nat → Self} {K : List Fact} (hR : Runs R K) {n : Nat} {f : FuncId} {args : List Value} {m : Mem} {r : Value × Mem} (hK : hasF K f = false) (h : abody E (R n) (n + 1) f args m = some r) : R (n + 1) f args m = some r := hR n f args m r hK h
theorem runsK (M : Mem) (K : List Fact) : Runs (fun n => runK E M K n) K := fun n f args m r hK h => (runK_other hK).trans h
theorem trim_nil {self : Self} {k : Nat} {m : Mem} : abody E self (k + 1) 38 [.slice none 0 0] m = some (.slice none 0 0, m) := by kernel_rfl
def CTrim (self : Self) : Prop := ∀ (B : Nat) (m : Mem) (v : Value) (L : List Nat) (r : Nat), GN B m v L → L.length ≤ 1000 → (∀ x ∈ L, x < 256) → val L = r → ∃ v', ainv E self 38 [v] m = some (v', m) ∧ NumB B v' m r
theorem trim_val {L : List Nat} {n : Nat} (h : TrimAt L n) (hx : ∀ x ∈ L, x < 256) : L.take n = dig (val L) := by
  obtain ⟨h1, h2, h3⟩ := h
  have hv : val L = val (L.take n) := by
    have h4 : val L = val (L.take n ++ L.drop n) := by rw [List.take_append_drop]
    rw [h4, val_append, val_noughts (l := L.drop n) fun x hx => ?_, Nat.mul_zero, Nat.add_zero]
    obtain ⟨j, hj⟩ := List.getElem?_of_mem hx
    rw [List.getElem?_drop] at hj
    have h5 := h2 (n + j) (by omega) (List.getElem?_eq_some_iff.1 hj).1
    rw [h5] at hj
    cases hj
    rfl
  rw [hv]
  refine (dig_val (fun x hx9 => hx x (List.mem_of_mem_take hx9)) ?_).symm
  rcases h3 with rfl | ⟨x, h4, h5⟩
  · left; rfl
  · by_cases hn : n = 0
    · subst hn; left; rfl
    · right
      refine ⟨x, h4, ?_⟩
      rw [List.length_take, Nat.min_eq_left h1, List.getElem?_take, if_pos (by omega)]
      exact h5
theorem ctrim {R : Nat → Self} {K : List Fact} (hR : Runs R K) {n : Nat} (hK : hasF K 38 = false) (hn : 1000 ≤ n) : CTrim (R (n + 1)) := by
  intro B m v L r h hL hx hr
  rcases h with ⟨rfl, rfl⟩ | ⟨b, hBb, rfl, hb, hne⟩
  · refine ⟨.slice none 0 0, ?_, .inl ⟨rfl, by rw [← hr]; rfl⟩⟩
    exact ainv_lit rfl (by kernel_rfl) (hR.b hK trim_nil) rfl
  · have hpos : 0 < L.length := List.length_pos_iff.2 hne
    have hbs : (m.map sealed)[b]? = some (.row true 3 (cellsN L)) := by rw [List.getElem?_map, hb]; rfl
    obtain ⟨k, hT, hbd⟩ := trim_body (self := (R n)) (nf := n + 1) hbs hpos hL (by omega)
    refine ⟨.slice (some ⟨b, 0, none⟩) k L.length, ?_, .inr ⟨L, k, b, false, hT.1, by rw [← hr]; exact trim_val hT hx, hBb, rfl, hb, hne⟩⟩
    unfold ainv
    rw [show ([Value.slice (some ⟨b, 0, none⟩) L.length L.length].all lit2) = false from rfl, show E.wr 38 = false from by kernel_rfl]
    simp only [Bool.false_eq_true, if_false, hR.b hK hbd]
    exact acoll_old (by rw [List.length_map]; exact lt_of_at hb)
end Go.Am.Seat
