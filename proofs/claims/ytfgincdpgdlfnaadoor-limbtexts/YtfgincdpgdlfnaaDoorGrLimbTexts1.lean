/-
  Texts of my own, put together: 6, B.
-/
import Derived.Test.YtfgincdpgdlfnaaDoorGrLimbTexts0
set_option linter.unusedSimpArgs false
set_option linter.unusedVariables false
namespace Go.Am
noncomputable section
def rid (n N : Nat) (keep : List Nat) (b : Nat) : Option Nat :=
  if b < n then some b else match keep.idxOf? b with
    | some j => some (N + j)
    | none => none
def renC (n N : Nat) (keep : List Nat) : Nat → Value → Option Value
  | _, .pointer (some ⟨b, o, none⟩) => match rid n N keep b with
    | some b' => some (.pointer (some ⟨b', o, none⟩))
    | none => none
  | _, .slice (some ⟨b, o, none⟩) l c => match rid n N keep b with
    | some b' => some (.slice (some ⟨b', o, none⟩) l c)
    | none => none
  | d + 1, .agg cs => match cs.toList.mapM (renC n N keep d) with
    | some l => some (.agg ⟨l⟩)
    | none => none
  | d + 1, .func fn a b => match a.toList.mapM (renC n N keep d), b.toList.mapM (renC n N keep d) with
    | some a', some b' => some (.func fn ⟨a'⟩ ⟨b'⟩)
    | _, _ => none
  | _, v => if lit0 v then some v else none
def ren1 (n N : Nat) (keep : List Nat) : Value → Option Value
  | .pointer (some ⟨b, o, none⟩) => match rid n N keep b with
    | some b' => some (.pointer (some ⟨b', o, none⟩))
    | none => none
  | .slice (some ⟨b, o, none⟩) l c => match rid n N keep b with
    | some b' => some (.slice (some ⟨b', o, none⟩) l c)
    | none => none
  | .func fn a b => if a.toList.isEmpty && b.toList.isEmpty then some (.func fn a b) else renC n N keep 6 (.func fn a b)
  | v => if lit0 v then some v else none
def renL (n N : Nat) (keep : List Nat) : List Value → Option (List Value)
  | [] => some []
  | v :: l => match ren1 n N keep v with
    | some v' => match renL n N keep l with
      | some l' => some (v' :: l')
      | none => none
    | none => none
def ren2 (n N : Nat) (keep : List Nat) : Value → Option Value
  | .agg cs => match renL n N keep cs.toList with
    | some l => some (.agg ⟨l⟩)
    | none => none
  | v => ren1 n N keep v
def renT (n N : Nat) (keep : List Nat) : List Value → Option (List Value)
  | [] => some []
  | v :: l => match ren2 n N keep v with
    | some v' => match renT n N keep l with
      | some l' => some (v' :: l')
      | none => none
    | none => none
def ren3 (n N : Nat) (keep : List Nat) : Value → Option Value
  | .tuple vs => match renT n N keep vs.toList with
    | some l => some (.tuple ⟨l⟩)
    | none => none
  | v => ren2 n N keep v
structure RR (n N : Nat) (keep : List Nat) (ρ ρ2 : Ren) : Prop where
  old : ∀ b x, b < n → ρ b = some x → ρ2 b = some x
  new : ∀ j b, keep[j]? = some b → ρ2 (N + j) = ρ b
theorem idxOf_get {l : List Nat} {b j : Nat} (h : l.idxOf? b = some j) : l[j]? = some b := by
  unfold List.idxOf? at h
  rw [List.findIdx?_eq_some_iff_getElem] at h
  obtain ⟨hj, hb, _⟩ := h
  simp only [beq_iff_eq] at hb
  simp [hj, hb]
theorem rid_vr {n N : Nat} {keep : List Nat} {ρ ρ2 : Ren} (h : RR n N keep ρ ρ2) {b b' : Nat} {x : At} (hr : rid n N keep b = some b') (hx : ρ b = some x) : ρ2 b' = some x := by
  unfold rid at hr
  split at hr
  · cases hr; exact h.old _ _ ‹_› hx
  · split at hr
    · rename_i j hj
      cases hr
      rw [h.new j b (idxOf_get hj)]; exact hx
    · cases hr
theorem mapM_get {F : Value → Option Value} : ∀ {l l2 : List Value}, l.mapM F = some l2 → l2.length = l.length ∧ ∀ (i : Nat) (u : Value), l2[i]? = some u → ∃ v, l[i]? = some v ∧ F v = some u
  | [], l2, h => by simp at h; subst h; exact ⟨rfl, fun i u hu => by simp at hu⟩
  | v :: l, l2, h => by
    rw [List.mapM_cons] at h
    cases h1 : F v with
    | none => rw [h1] at h; cases h
    | some u1 =>
      cases h2 : l.mapM F with
      | none => rw [h1, h2] at h; cases h
      | some l3 =>
        rw [h1, h2] at h
        cases h
        obtain ⟨e, ih⟩ := mapM_get h2
        refine ⟨by simp [e], fun i u hu => ?_⟩
        cases i with
        | zero => simp at hu; subst hu; exact ⟨v, rfl, h1⟩
        | succ i => simp at hu; obtain ⟨y, hy, hh⟩ := ih i u hu; exact ⟨y, by simpa using hy, hh⟩
theorem vr_agg_inv {ρ : Ren} {l : List Value} {v' : Value} (h : VR ρ (.agg ⟨l⟩) v') : ∃ l' : List Value, v' = .agg ⟨l'⟩ ∧ l.length = l'.length ∧ ∀ (i : Nat) (x y : Value), l[i]? = some x → l'[i]? = some y → VR ρ x y := by
  cases h with
  | lit h =>
    refine ⟨l, rfl, rfl, fun i x y hx hy => ?_⟩
    rw [hx] at hy; cases hy
    simp only [lit2, lit1] at h
    exact .lit (lit2_of_lit1 (lit1_of_lit0 ((List.all_eq_true.1 h) x (List.mem_of_getElem? hx))))
  | agg hn hx => exact ⟨_, rfl, hn, hx⟩
theorem vr_func_inv {ρ : Ren} {fn : Fn} {a b : List Value} {v' : Value} (h : VR ρ (.func fn ⟨a⟩ ⟨b⟩) v') : ∃ a' b' : List Value, v' = .func fn ⟨a'⟩ ⟨b'⟩ ∧ a.length = a'.length ∧
    (∀ (i : Nat) (x y : Value), a[i]? = some x → a'[i]? = some y → VR ρ x y) ∧ b.length = b'.length ∧ ∀ (i : Nat) (x y : Value), b[i]? = some x → b'[i]? = some y → VR ρ x y := by
  cases h with
  | lit h =>
    simp only [lit2, lit1, lit0, Bool.and_eq_true, List.isEmpty_iff] at h
    obtain ⟨rfl, rfl⟩ := h
    exact ⟨[], [], rfl, rfl, fun i x y hx => by simp at hx, rfl, fun i x y hx => by simp at hx⟩
  | func hn h hk k => exact ⟨_, _, rfl, hn, h, hk, k⟩
theorem renC_vr {n N : Nat} {keep : List Nat} {ρ ρ2 : Ren} (h : RR n N keep ρ ρ2) : ∀ (d : Nat) {v v' u : Value}, renC n N keep d v = some u → VR ρ v v' → VR ρ2 u v' := by
  intro d
  induction d with
  | zero =>
    intro v v' u hr hv
    unfold renC at hr
    split at hr
    · split at hr
      · rename_i b' hb
        cases hr
        obtain ⟨x, hx, rfl⟩ := vr_ptr_inv hv
        exact .ptr (rid_vr h hb hx)
      · cases hr
    · split at hr
      · rename_i b' hb
        cases hr
        obtain ⟨x, c', hx, rfl, hc⟩ := vr_slice_inv hv
        exact .slice (rid_vr h hb hx) hc
      · cases hr
    · exfalso; omega
    · exfalso; omega
    · split at hr
      · rename_i hl
        cases hr
        rw [hv.eq_of_lit0 hl]
        exact .lit (lit2_of_lit1 (lit1_of_lit0 hl))
      · cases hr
  | succ d ih =>
    intro v v' u hr hv
    have key : ∀ {l l2 l' : List Value}, l.mapM (renC n N keep d) = some l2 → l.length = l'.length → (∀ (i : Nat) (x y : Value), l[i]? = some x → l'[i]? = some y → VR ρ x y) →
        l2.length = l'.length ∧ ∀ (i : Nat) (x y : Value), l2[i]? = some x → l'[i]? = some y → VR ρ2 x y := by
      intro l l2 l' hm hn hx
      obtain ⟨e, hg⟩ := mapM_get hm
      refine ⟨by omega, fun i x y h1 h2 => ?_⟩
      obtain ⟨z, hz, hf⟩ := hg i x h1
      exact ih hf (hx i z y hz h2)
    unfold renC at hr
    split at hr
    · split at hr
      · rename_i b' hb
        cases hr
        obtain ⟨x, hx, rfl⟩ := vr_ptr_inv hv
        exact .ptr (rid_vr h hb hx)
      · cases hr
    · split at hr
      · rename_i b' hb
        cases hr
        obtain ⟨x, c', hx, rfl, hc⟩ := vr_slice_inv hv
        exact .slice (rid_vr h hb hx) hc
      · cases hr
    · rename_i d' cs h0
      cases h0
      split at hr
      · rename_i l hl
        cases hr
        obtain ⟨l', rfl, hn, hx⟩ := vr_agg_inv (l := cs.toList) hv
        obtain ⟨e, hi⟩ := key hl hn hx
        exact .agg e hi
      · cases hr
    · rename_i d' fn a b h0
      cases h0
      split at hr
      · rename_i a1 b1 ha hb
        cases hr
        obtain ⟨a', b', rfl, hn, hx, hk, hy⟩ := vr_func_inv (a := a.toList) (b := b.toList) hv
        obtain ⟨e1, h1⟩ := key ha hn hx
        obtain ⟨e2, h2⟩ := key hb hk hy
        exact .func e1 h1 e2 h2
      · cases hr
    · split at hr
      · rename_i hl
        cases hr
        rw [hv.eq_of_lit0 hl]
        exact .lit (lit2_of_lit1 (lit1_of_lit0 hl))
      · cases hr
theorem ren1_vr {n N : Nat} {keep : List Nat} {ρ ρ2 : Ren} (h : RR n N keep ρ ρ2) {v v' u : Value} (hr : ren1 n N keep v = some u) (hv : VR ρ v v') : VR ρ2 u v' := by
  unfold ren1 at hr
  split at hr
  · split at hr
    · rename_i b' hb
      cases hr
      obtain ⟨x, hx, rfl⟩ := vr_ptr_inv hv
      exact .ptr (rid_vr h hb hx)
    · cases hr
  · split at hr
    · rename_i b' hb
      cases hr
      obtain ⟨x, c', hx, rfl, hc⟩ := vr_slice_inv hv
      exact .slice (rid_vr h hb hx) hc
    · cases hr
  · split at hr
    · rename_i hl
      cases hr
      rw [hv.eq_of_lit0 hl]
      exact .lit hl
    · exact renC_vr h 6 hr hv
  · split at hr
    · rename_i hl
      cases hr
      rw [hv.eq_of_lit0 hl]
      exact .lit (lit2_of_lit1 (lit1_of_lit0 hl))
    · cases hr
theorem renC_func_lit {n N : Nat} {keep : List Nat} {d : Nat} {fn : Fn} {a b : Array Value} {u : Value} (h : renC n N keep d (.func fn a b) = some u) (hl : lit2 u = true) : lit0 (.func fn a b) = true := by
  cases d with
  | zero =>
    unfold renC at h
    split at h
    · rename_i h0; exact h0
    · cases h
  | succ d =>
    unfold renC at h
    split at h
    · rename_i a1 b1 ha hb
      cases h
      obtain ⟨e1, _⟩ := mapM_get ha
      obtain ⟨e2, _⟩ := mapM_get hb
      simp only [lit2, lit1, lit0, Bool.and_eq_true, List.isEmpty_iff] at hl ⊢
      obtain ⟨rfl, rfl⟩ := hl
      exact ⟨List.eq_nil_of_length_eq_zero e1.symm, List.eq_nil_of_length_eq_zero e2.symm⟩
    · cases h
theorem renL_vr {n N : Nat} {keep : List Nat} {ρ ρ2 : Ren} (h : RR n N keep ρ ρ2) : ∀ {l l2 : List Value}, renL n N keep l = some l2 →
    l2.length = l.length ∧ ∀ (i : Nat) (u : Value), l2[i]? = some u → ∃ v, l[i]? = some v ∧ ∀ v', VR ρ v v' → VR ρ2 u v'
  | [], l2, hr => by simp [renL] at hr; subst hr; exact ⟨rfl, fun i u hu => by simp at hu⟩
  | v :: l, l2, hr => by
    unfold renL at hr
    split at hr
    · rename_i v1 h1
      split at hr
      · rename_i l1 h2
        cases hr
        obtain ⟨e, ih⟩ := renL_vr h h2
        refine ⟨by simp [e], fun i u hu => ?_⟩
        cases i with
        | zero => simp at hu; subst hu; exact ⟨v, rfl, fun v' hv => ren1_vr h h1 hv⟩
        | succ i => simp at hu; obtain ⟨y, hy, hh⟩ := ih i u hu; exact ⟨y, by simpa using hy, hh⟩
      · cases hr
    · cases hr
theorem ren2_vr {n N : Nat} {keep : List Nat} {ρ ρ2 : Ren} (h : RR n N keep ρ ρ2) {v v' u : Value} (hr : ren2 n N keep v = some u) (hv : VR ρ v v') : VR ρ2 u v' := by
  unfold ren2 at hr
  split at hr
  · rename_i cs
    split at hr
    · rename_i l hl
      cases hr
      obtain ⟨e, hi⟩ := renL_vr h hl
      cases hv with
      | lit hlit =>
        refine VR.agg (l' := cs.toList) e fun i x y hx hy => ?_
        obtain ⟨z, hz, hh⟩ := hi i x hx
        rw [hz] at hy
        simp only [Option.some.injEq] at hy
        subst hy
        simp only [lit2, lit1] at hlit
        exact hh _ (.lit (lit2_of_lit1 (lit1_of_lit0 ((List.all_eq_true.1 hlit) z (List.mem_of_getElem? hz)))))
      | agg hn hx =>
        refine VR.agg (by rw [e]; exact hn) fun i x y hx' hy => ?_
        obtain ⟨z, hz, hh⟩ := hi i x hx'
        exact hh _ (hx i z y hz hy)
    · cases hr
  · exact ren1_vr h hr hv
theorem renT_vr {n N : Nat} {keep : List Nat} {ρ ρ2 : Ren} (h : RR n N keep ρ ρ2) : ∀ {l l2 : List Value}, renT n N keep l = some l2 →
    l2.length = l.length ∧ ∀ (i : Nat) (u : Value), l2[i]? = some u → ∃ v, l[i]? = some v ∧ ∀ v', VR ρ v v' → VR ρ2 u v'
  | [], l2, hr => by simp [renT] at hr; subst hr; exact ⟨rfl, fun i u hu => by simp at hu⟩
  | v :: l, l2, hr => by
    unfold renT at hr
    split at hr
    · rename_i v1 h1
      split at hr
      · rename_i l1 h2
        cases hr
        obtain ⟨e, ih⟩ := renT_vr h h2
        refine ⟨by simp [e], fun i u hu => ?_⟩
        cases i with
        | zero => simp at hu; subst hu; exact ⟨v, rfl, fun v' hv => ren2_vr h h1 hv⟩
        | succ i => simp at hu; obtain ⟨y, hy, hh⟩ := ih i u hu; exact ⟨y, by simpa using hy, hh⟩
      · cases hr
    · cases hr
theorem ren3_vr {n N : Nat} {keep : List Nat} {ρ ρ2 : Ren} (h : RR n N keep ρ ρ2) {v v' u : Value} (hr : ren3 n N keep v = some u) (hv : VR ρ v v') : VR ρ2 u v' := by
  unfold ren3 at hr
  split at hr
  · rename_i vs
    split at hr
    · rename_i l hl
      cases hr
      obtain ⟨e, hi⟩ := renT_vr h hl
      cases hv with
      | lit hlit =>
        refine VR.tuple (l' := vs.toList) e fun i x y hx hy => ?_
        obtain ⟨z, hz, hh⟩ := hi i x hx
        rw [hz] at hy
        simp only [Option.some.injEq] at hy
        subst hy
        simp only [lit2] at hlit
        exact hh _ (.lit (lit2_of_lit1 ((List.all_eq_true.1 hlit) z (List.mem_of_getElem? hz))))
      | tuple hn hx =>
        refine VR.tuple (by rw [e]; exact hn) fun i x y hx' hy => ?_
        obtain ⟨z, hz, hh⟩ := hi i x hx'
        exact hh _ (hx i z y hz hy)
    · cases hr
  · exact ren2_vr h hr hv
def renB (n N : Nat) (keep : List Nat) (m1 : Mem) : List Nat → Option (List Blk)
  | [] => some []
  | b :: l => match m1[b]? with
    | some (.row ro e cs) => match renL n N keep cs with
      | some cs' => match renB n N keep m1 l with
        | some l' => some (.row ro e cs' :: l')
        | none => none
      | none => none
    | _ => none
theorem renB_get {n N : Nat} {keep : List Nat} {m1 : Mem} : ∀ {l : List Nat} {bs : List Blk}, renB n N keep m1 l = some bs →
    bs.length = l.length ∧ ∀ (j : Nat) (x : Blk), bs[j]? = some x → ∃ b ro e cs cs', l[j]? = some b ∧ m1[b]? = some (.row ro e cs) ∧ renL n N keep cs = some cs' ∧ x = .row ro e cs'
  | [], bs, h => by simp [renB] at h; subst h; exact ⟨rfl, fun j x hx => by simp at hx⟩
  | b :: l, bs, h => by
    unfold renB at h
    split at h
    · rename_i ro e cs hb
      split at h
      · rename_i cs' hcs
        split at h
        · rename_i l' hl
          cases h
          obtain ⟨e1, ih⟩ := renB_get hl
          refine ⟨by simp [e1], fun j x hx => ?_⟩
          cases j with
          | zero => simp at hx; subst hx; exact ⟨b, ro, e, cs, cs', rfl, hb, hcs, rfl⟩
          | succ j => simp at hx; obtain ⟨b', ro', e', c1, c2, h1, h2⟩ := ih j x hx; exact ⟨b', ro', e', c1, c2, by simpa using h1, h2⟩
        · cases h
      · cases h
    · cases h
def idsC (n : Nat) : Nat → Value → List Nat
  | _, .pointer (some a) => if a.block < n then [] else [a.block]
  | _, .slice (some a) _ _ => if a.block < n then [] else [a.block]
  | d + 1, .agg cs => cs.toList.flatMap (idsC n d)
  | d + 1, .func _ a b => a.toList.flatMap (idsC n d) ++ b.toList.flatMap (idsC n d)
  | _, _ => []
def idOf (n : Nat) : Value → List Nat
  | .pointer (some a) => if a.block < n then [] else [a.block]
  | .slice (some a) _ _ => if a.block < n then [] else [a.block]
  | .func fn a b => if a.toList.isEmpty && b.toList.isEmpty then [] else idsC n 6 (.func fn a b)
  | _ => []
def addIds : List Nat → List Nat → List Nat
  | [], acc => acc
  | b :: l, acc => addIds l (if acc.contains b then acc else acc ++ [b])
def idsL (n : Nat) : List Value → List Nat → List Nat
  | [], acc => acc
  | v :: l, acc => idsL n l (addIds (idOf n v) acc)
def partsOf : Value → List Value
  | .agg cs => cs.toList
  | .tuple vs => vs.toList.flatMap fun | .agg cs => cs.toList | v => [v]
  | v => [v]
def closeIds (n : Nat) (m1 : Mem) : Nat → List Nat → List Nat
  | 0, acc => acc
  | d + 1, acc => closeIds n m1 d (acc.foldl (fun (a : List Nat) (b : Nat) => match m1[b]? with | some (Blk.row _ _ cs) => idsL n cs a | _ => a) acc)
def nodupB : List Nat → Bool
  | [] => true
  | b :: l => !l.contains b && nodupB l
theorem nodupB_get : ∀ {l : List Nat}, nodupB l = true → ∀ {i j : Nat} {b : Nat}, l[i]? = some b → l[j]? = some b → i = j
  | [], _, i, j, b, h, _ => by simp at h
  | a :: l, hn, i, j, b, hi, hj => by
    simp only [nodupB, Bool.and_eq_true, Bool.not_eq_true', List.contains_eq_mem] at hn
    obtain ⟨h1, h2⟩ := hn
    have h1' : a ∉ l := by simpa using h1
    cases i with
    | zero =>
      cases j with
      | zero => rfl
      | succ j => simp at hi hj; subst hi; exact absurd (List.mem_of_getElem? hj) h1'
    | succ i =>
      cases j with
      | zero => simp at hi hj; subst hj; exact absurd (List.mem_of_getElem? hi) h1'
      | succ j => simp at hi hj; rw [nodupB_get h2 hi hj]
def acoll (m : Mem) (n : Nat) (v : Value) (m1 : Mem) : Option (Value × Mem) :=
  if lit2 v then some (v, m) else
    let keep := closeIds n m1 2 (idsL n (partsOf v) [])
    if nodupB keep && keep.all (fun b => decide (n ≤ b)) then
      match renB n m.length keep m1 keep with
      | some bs => match ren3 n m.length keep v with
        | some v' => some (v', m ++ bs)
        | none => none
      | none => none
    else none
theorem acoll_sound {P : Program} {ρ ρv ρ1 : Ren} {m mv m1 m2 : Mem} {w w1 : World} {n : Nat} {v v' v2 : Value} (hm : MR P ρ m w) (hn : n = mv.length)     (hρ : ∀ k x, ρv k = some x → ρ k = some x) (hro : ∀ (k : Nat) (e : TypeId) (cs : List Value), mv[k]? ≠ some (Blk.row false e cs)) (hm1 : MR P ρ1 m1 w1) (hx : Ext ρv mv w ρ1 m1 w1) (hv : VR ρ1 v v')
    (h : acoll m n v m1 = some (v2, m2)) : ∃ ρ2, VR ρ2 v2 v' ∧ MR P ρ2 m2 w1 ∧ Ext ρ m w ρ2 m2 w1 := by
  have hheap : ∀ r, r < w.heap.size → w1.heap[r]? = w.heap[r]? := fun r hr => hx.kept r hr fun k e cs x hk _ => absurd hk (hro k e cs)
  have hfresh : ∀ k x, n ≤ k → ρ1 k = some x → w.heap.size ≤ x.r := by
    intro k x hk hkx
    rcases hx.fresh k x (by omega) hkx with h1 | ⟨k0, e0, cs0, _, h0, _⟩
    · exact h1
    · exact absurd h0 (hro k0 e0 cs0)
  have hmw : MR P ρ m w1 := by
    refine ⟨hm.dom, fun k x hk => Nat.lt_of_lt_of_le (hm.bnd k x hk) hx.size, hm.glob, fun k ro e cs hk => ?_, hm.inj, hm.tab⟩
    obtain ⟨x, c, fr, h1, h2, h3⟩ := hm.row k ro e cs hk
    exact ⟨x, c, fr, h1, by rw [hheap _ (hm.bnd k x h1)]; exact h2, h3⟩
  have hxt : Ext ρ m w ρ m w1 :=
    ⟨Ren.le_refl _, fun _ _ => rfl, Nat.le_refl _, fun k x hk hx' => by (rw [hm.dom k hk] at hx'; cases hx'), hx.os, hx.tape, hx.output, hx.size, fun r hr _ => hheap r hr, fun k e cs x hk hx' => .inr ⟨k, e, cs, x, hk, hx', rfl⟩⟩
  unfold acoll at h
  split at h
  · rename_i hl
    cases h
    rw [hv.eq_of_lit2 hl]
    exact ⟨ρ, .lit hl, hmw, hxt⟩
  · simp only at h
    generalize closeIds n m1 2 (idsL n (partsOf v) []) = keep at h
    split at h
    · rename_i hk
      simp only [Bool.and_eq_true] at hk
      obtain ⟨hnd, hge⟩ := hk
      split at h
      · rename_i bs hbs
        split at h
        · rename_i v3 hv3
          cases h
          obtain ⟨hlen, hget⟩ := renB_get hbs
          let ρ2 : Ren := fun k => if k < m.length then ρ k else (keep[k - m.length]?).bind ρ1
          have hold : ∀ k, k < m.length → ρ2 k = ρ k := fun k hk => by simp only [ρ2, hk, if_true]
          have hnew : ∀ k, m.length ≤ k → ρ2 k = (keep[k - m.length]?).bind ρ1 := fun k hk => by simp only [ρ2]; rw [if_neg (by omega)]
          have hle : ρ.le ρ2 := by
            intro k x hk
            by_cases hlt : k < m.length
            · rw [hold k hlt]; exact hk
            · rw [hm.dom k (by omega)] at hk; cases hk
          have hRR : RR n m.length keep ρ1 ρ2 := by
            refine ⟨fun b x hb hbx => ?_, fun j b hj => ?_⟩
            · rw [hx.same b (by omega)] at hbx
              exact hle _ _ (hρ b x hbx)
            · rw [hnew _ (by omega), Nat.add_sub_cancel_left, hj]; rfl
          have hcase : ∀ k b, (m ++ bs)[k]? = some b → (k < m.length ∧ m[k]? = some b) ∨ (m.length ≤ k ∧ bs[k - m.length]? = some b) := by
            intro k b hb
            by_cases hk : k < m.length
            · left; rw [List.getElem?_append_left hk] at hb; exact ⟨hk, hb⟩
            · right; rw [List.getElem?_append_right (by omega)] at hb; exact ⟨by omega, hb⟩
          have hlook : ∀ k q, look (m ++ bs) k = some q → (k < m.length ∧ look m k = some q) ∨ (m.length ≤ k ∧ ∃ b, bs[k - m.length]? = some b ∧ b.cells? = some q) := by
            intro k q hq
            unfold look at hq
            split at hq
            · rename_i b hb
              rcases hcase k b hb with ⟨hk, hb⟩ | ⟨hk, hb⟩
              · left; exact ⟨hk, by simp [look, hb, hq]⟩
              · right; exact ⟨hk, b, hb, hq⟩
            · cases hq
          have hkge : ∀ j b, keep[j]? = some b → n ≤ b := fun j b hj => by simpa using (List.all_eq_true.1 hge) b (List.mem_of_getElem? hj)
          have hnewx : ∀ k x, m.length ≤ k → ρ2 k = some x → ∃ b, keep[k - m.length]? = some b ∧ ρ1 b = some x := by
            intro k x hk hkx
            rw [hnew k hk] at hkx
            cases hj : keep[k - m.length]? with
            | none => rw [hj] at hkx; cases hkx
            | some b => rw [hj] at hkx; exact ⟨b, rfl, hkx⟩
          refine ⟨ρ2, ren3_vr hRR hv3 hv, ⟨?_, ?_, fun g hg => (hm.glob g hg).imp fun x hx' => ⟨hle _ _ hx'.1, hx'.2⟩, ?_, ?_, ?_⟩, ⟨hle, hold, by simp, ?_, hx.os, hx.tape, hx.output, hx.size, fun r hr _ => hheap r hr, ?_⟩⟩
          · intro k hk
            simp at hk
            rw [hnew k (by omega), List.getElem?_eq_none (by omega)]; rfl
          · intro k x hkx
            by_cases hlt : k < m.length
            · rw [hold k hlt] at hkx; exact Nat.lt_of_lt_of_le (hm.bnd k x hkx) hx.size
            · obtain ⟨b, _, hb⟩ := hnewx k x (by omega) hkx
              exact hm1.bnd b x hb
          · intro k ro e cs hb
            rcases hlook k _ hb with ⟨hk, hb'⟩ | ⟨hk, b9, hb', hb9⟩
            · obtain ⟨x, c, fr, h1, h2, h3, h4, h5, h6, h7⟩ := hmw.row k ro e cs hb'
              exact ⟨x, c, fr, hle _ _ h1, h2, h3, h4, fun i u hu => (h5 i u hu).imp fun y hy => ⟨hy.1, hy.2.mono hle⟩, h6, h7⟩
            · obtain ⟨b, ro', e', c1, c2, hj, hmb, hrl, he⟩ := hget _ _ hb'
              subst he
              simp only [Blk.cells?, Option.some.injEq, Prod.mk.injEq] at hb9
              obtain ⟨rfl, rfl, rfl⟩ := hb9
              obtain ⟨x, c, fr, h1, h2, h3, h4, h5, h6, h7⟩ := hm1.row b _ _ c1 (look_row hmb)
              obtain ⟨hl1, hl2⟩ := renL_vr hRR hrl
              refine ⟨x, c, fr, by rw [hnew k hk, hj]; exact h1, h2, h3, by omega, fun i u hu => ?_, h6, h7⟩
              obtain ⟨z, hz, hh⟩ := hl2 i u hu
              obtain ⟨y, hy, hyv⟩ := h5 i z hz
              exact ⟨y, hy, hh y hyv⟩
          · intro k e cs k' ro' e' cs' x x' hb hb' hkx hkx' hr
            rcases hcase k _ hb with ⟨hk, hb1⟩ | ⟨hk, hb1⟩
            · rw [hold k hk] at hkx
              rcases hlook k' _ hb' with ⟨hk', hb2⟩ | ⟨hk', b8, hb2, hb8⟩
              · rw [hold k' hk'] at hkx'
                exact hm.inj k e cs k' ro' e' cs' x x' hb1 hb2 hkx hkx' hr
              · obtain ⟨b, hj, hbx⟩ := hnewx k' x' hk' hkx'
                have h1 := hfresh b x' (hkge _ _ hj) hbx
                have h2 := hm.bnd k x hkx
                omega
            · obtain ⟨b, hj, hbx⟩ := hnewx k x hk hkx
              have h1 := hfresh b x (hkge _ _ hj) hbx
              rcases hlook k' _ hb' with ⟨hk', hb2⟩ | ⟨hk', b8, hb2, hb8⟩
              · rw [hold k' hk'] at hkx'
                have h2 := hm.bnd k' x' hkx'
                omega
              · obtain ⟨b', hj', hbx'⟩ := hnewx k' x' hk' hkx'
                obtain ⟨bb, r1, e1, c1, c2, hj1, hm1b, _, he1⟩ := hget _ _ hb1
                obtain ⟨bb', r2, e2, c3, c4, hj2, hm1b', _, he2⟩ := hget _ _ hb2
                cases he1
                subst he2
                simp only [Blk.cells?, Option.some.injEq, Prod.mk.injEq] at hb8
                obtain ⟨rfl, rfl, rfl⟩ := hb8
                rw [hj] at hj1; cases hj1
                rw [hj'] at hj2; cases hj2
                have := hm1.inj b e c1 b' _ _ c3 x x' hm1b (look_row hm1b') hbx hbx' hr
                subst this
                have := nodupB_get hnd hj hj'
                omega
          · intro k e cs hb
            rcases hcase k _ hb with ⟨hk, hb1⟩ | ⟨hk, hb1⟩
            · exact hm.tab k e cs hb1
            · obtain ⟨_, _, _, _, _, _, _, _, he⟩ := hget _ _ hb1
              cases he
          · intro k x hk hkx
            obtain ⟨b, hj, hbx⟩ := hnewx k x hk hkx
            left; exact hfresh b x (hkge _ _ hj) hbx
          · intro k e cs x hb hkx
            rcases hcase k _ hb with ⟨hk, hb1⟩ | ⟨hk, hb1⟩
            · rw [hold k hk] at hkx
              right; exact ⟨k, e, cs, x, hb1, hkx, rfl⟩
            · obtain ⟨b, hj, hbx⟩ := hnewx k x hk hkx
              left; exact hfresh b x (hkge _ _ hj) hbx
        · cases h
      · cases h
    · cases h
end
end Go.Am
namespace Go.Am
noncomputable section
theorem MR.kill {P : Program} {ρ : Ren} {m : Mem} {w : World} (h : MR P ρ m w) (b : Nat) : MR P ρ (m.set b .dead) w ∧ Ext ρ m w ρ (m.set b .dead) w := by
  have hcase : ∀ j x, (m.set b Blk.dead)[j]? = some x → (j ≠ b ∧ m[j]? = some x) ∨ x = .dead := by
    intro j x hx
    rw [List.getElem?_set] at hx
    by_cases hj : b = j
    · subst hj
      simp only [if_true] at hx
      split at hx
      · right; exact (Option.some.inj hx).symm
      · cases hx
    · simp only [hj, if_false] at hx
      left; exact ⟨fun e => hj e.symm, hx⟩
  have hlook : ∀ j q, look (m.set b Blk.dead) j = some q → look m j = some q := by
    intro j q hq
    unfold look at hq
    split at hq
    · rename_i x hx
      rcases hcase j x hx with ⟨_, hb⟩ | rfl
      · simp [look, hb, hq]
      · simp [Blk.cells?] at hq
    · cases hq
  have hrow : ∀ (j : Nat) (e : TypeId) (cs : List Value), (m.set b Blk.dead)[j]? = some (Blk.row false e cs) → m[j]? = some (Blk.row false e cs) := by
    intro j e cs hj
    rcases hcase j _ hj with ⟨_, hb⟩ | hb
    · exact hb
    · cases hb
  refine ⟨⟨fun k hk => h.dom k (by simpa using hk), h.bnd, h.glob, fun k ro e cs hk => h.row k ro e cs (hlook k _ hk), fun k e cs k' ro' e' cs' x x' hk hk' => h.inj k e cs k' ro' e' cs' x x' (hrow _ _ _ hk) (hlook _ _ hk'), ?_⟩, ?_⟩
  · intro k e cs hk
    rcases hcase k _ hk with ⟨_, hb⟩ | hb
    · exact h.tab k e cs hb
    · cases hb
  · exact ⟨Ren.le_refl _, fun _ _ => rfl, by simp, fun k x hk hx => by (rw [h.dom k hk] at hx; cases hx), rfl, rfl, rfl, Nat.le_refl _, fun _ _ _ => rfl,
      fun k e cs x hk hx => .inr ⟨k, e, cs, x, hrow _ _ _ hk, hx, rfl⟩⟩
theorem MR.move {P : Program} {ρ : Ren} {m : Mem} {w w' : World} (h : MR P ρ m w) {b : Nat} {e : TypeId} {cs cs' : List Value} {x : At} {c c' : Array Value} {fr : Nat × Nat}
    (hb : m[b]? = some (.row false e cs)) (hx : ρ b = some x) (hw : w.heap[x.r]? = some (.cells c e fr)) (hu : Upd w w' x.r (.cells c' e fr)) (hsz : c'.size = c.size)
    (hlen : cs'.length ≤ c'.size) (hc : ∀ (i : Nat) (u : Value), cs'[i]? = some u → ∃ v, c'[i]? = some v ∧ VR ρ u v) :
    MR P (ρ.put m.length x) (m.set b .dead ++ [.row false e cs']) w' ∧ Ext ρ m w (ρ.put m.length x) (m.set b .dead ++ [.row false e cs']) w' := by
  have hle : ρ.le (ρ.put m.length x) := Ren.le_put (h.dom _ (Nat.le_refl _))
  have hput : ∀ k, k < m.length → (ρ.put m.length x) k = ρ k := by
    intro k hk; unfold Ren.put; rw [if_neg (by omega)]
  have hputn : (ρ.put m.length x) m.length = some x := by simp [Ren.put]
  have hcase : ∀ (j : Nat) (y : Blk), (m.set b Blk.dead ++ [Blk.row false e cs'])[j]? = some y → (j < m.length ∧ j ≠ b ∧ m[j]? = some y) ∨ y = .dead ∨ (j = m.length ∧ y = .row false e cs') := by
    intro j y hy
    rcases Nat.lt_trichotomy j m.length with hj | hj | hj
    · rw [List.getElem?_append_left (by simpa using hj), List.getElem?_set] at hy
      by_cases hjb : b = j
      · subst hjb
        simp only [if_true] at hy
        split at hy
        · right; left; exact (Option.some.inj hy).symm
        · rename_i hno; exact absurd hj hno
      · simp only [hjb, if_false] at hy
        left; exact ⟨hj, fun e => hjb e.symm, hy⟩
    · right; right
      rw [List.getElem?_append_right (by simp; omega)] at hy
      simp [hj] at hy
      exact ⟨hj, hy.symm⟩
    · rw [List.getElem?_append_right (by simp; omega), List.getElem?_eq_none (by simp; omega)] at hy; cases hy
  have hlook : ∀ j q, look (m.set b Blk.dead ++ [Blk.row false e cs']) j = some q → (j < m.length ∧ j ≠ b ∧ look m j = some q) ∨ (j = m.length ∧ q = (false, e, cs')) := by
    intro j q hq
    unfold look at hq
    split at hq
    · rename_i y hy
      rcases hcase j y hy with ⟨h1, h2, h3⟩ | rfl | ⟨h1, rfl⟩
      · left; exact ⟨h1, h2, by simp [look, h3, hq]⟩
      · simp [Blk.cells?] at hq
      · right; simp [Blk.cells?] at hq; exact ⟨h1, hq.symm⟩
    · cases hq
  obtain ⟨x0, c0, fr0, hx0, hw0, hn0, hl0, hi0, hf0, hs0⟩ := h.row b false e cs (look_row hb)
  rw [hx] at hx0; cases hx0
  rw [hw] at hw0; cases hw0
  have hblt : b < m.length := (List.getElem?_eq_some_iff.1 hb).1
  have hother : ∀ k ro e1 cs1 y, k ≠ b → look m k = some (ro, e1, cs1) → ρ k = some y → y.r ≠ x.r := by
    intro k ro e1 cs1 y hk hl hy e2
    exact hk (h.inj b e cs k ro e1 cs1 x y hb hl hx hy e2.symm).symm
  refine ⟨⟨?_, ?_, fun g hg => (h.glob g hg).imp fun y hy => ⟨hle _ _ hy.1, hy.2⟩, ?_, ?_, ?_⟩, ⟨hle, hput, by simp, ?_, hu.os, hu.tape, hu.output, by rw [hu.size]; exact Nat.le_refl _, ?_, ?_⟩⟩
  · intro k hk
    simp at hk
    unfold Ren.put
    rw [if_neg (by omega)]
    exact h.dom k (by omega)
  · intro k y hy
    rw [hu.size]
    unfold Ren.put at hy
    split at hy
    · cases hy; exact h.bnd b x hx
    · exact h.bnd k y hy
  · intro k ro' e' cs1 hk
    rcases hlook k _ hk with ⟨h1, h2, h3⟩ | ⟨h1, h3⟩
    · obtain ⟨y, c1, fr1, hy, hw1, hn1, hl1, hi1, hf1, hs1⟩ := h.row k ro' e' cs1 h3
      exact ⟨y, c1, fr1, hle _ _ hy, by rw [hu.other _ (hother k _ _ _ y h2 h3 hy)]; exact hw1, hn1, hl1, fun i u hu' => (hi1 i u hu').imp fun z hz => ⟨hz.1, hz.2.mono hle⟩, hf1, hs1⟩
    · cases h3
      subst h1
      exact ⟨x, c', fr, hputn, hu.same, by rw [hsz]; exact hn0, hlen, fun i u hu' => (hc i u hu').imp fun z hz => ⟨hz.1, hz.2.mono hle⟩, fun hh => by rw [hsz]; exact hf0 hh, hs0⟩
  · intro k e1 cs1 k' ro' e' cs2 y y' hk hk' hy hy' hr
    rcases hlook k _ (look_row hk) with ⟨h1, h2, h3⟩ | ⟨h1, _⟩
    · rw [hput k h1] at hy
      rcases hlook k' _ hk' with ⟨h4, h5, h6⟩ | ⟨h4, _⟩
      · rw [hput k' h4] at hy'
        exact h.inj k e1 cs1 k' ro' e' cs2 y y' (row_of_look h3) h6 hy hy' hr
      · subst h4
        rw [hputn] at hy'; cases hy'
        exact absurd hr (hother k _ _ _ y h2 h3 hy)
    · subst h1
      rw [hputn] at hy; cases hy
      rcases hlook k' _ hk' with ⟨h4, h5, h6⟩ | ⟨h4, _⟩
      · rw [hput k' h4] at hy'
        exact absurd hr.symm (hother k' _ _ _ y' h5 h6 hy')
      · exact h4.symm
  · intro k e1 cs1 hk
    rcases hcase k _ hk with ⟨_, _, h3⟩ | h3 | ⟨_, h3⟩
    · exact h.tab k e1 cs1 h3
    · cases h3
    · cases h3
  · intro k y hk hy
    unfold Ren.put at hy
    split at hy
    · cases hy; right; exact ⟨b, e, cs, x, hb, hx, rfl⟩
    · rw [h.dom k hk] at hy; cases hy
  · intro r hr hno
    exact hu.other r fun e1 => hno b e cs x hb hx e1.symm
  · intro k e1 cs1 y hk hy
    rcases hcase k _ hk with ⟨h1, h2, h3⟩ | h3 | ⟨h1, h3⟩
    · rw [hput k h1] at hy
      right; exact ⟨k, e1, cs1, y, h3, hy, rfl⟩
    · cases h3
    · subst h1
      rw [hputn] at hy; cases hy
      right; exact ⟨b, e, cs, x, hb, hx, rfl⟩
def asrc (m : Mem) (size : Nat) (v : Value) : Option (Nat × List Value) :=
  match v with
  | .slice (some ⟨b, o, none⟩) n _ => match look m b with
    | some (_, _, cs) => if o + n * size ≤ cs.length then some (n, (cs.drop o).take (n * size)) else none
    | none => none
  | .slice none n _ => if n = 0 then some (0, []) else none
  | .string s => if size = 1 then some (s.data.toList.length, s.data.toList.map fun b => .int .u8 (b.toNat : Int)) else none
  | _ => none
theorem asrc_sound {P : Program} {ρ : Ren} {m : Mem} {w : World} (hm : MR P ρ m w) {size n k : Nat} {v v' : Value} {l : List Value} (hv : VR ρ v v') (h : asrc m size v = some (n, l)) (hk : k ≤ n) :
    (Builtin.lenOf v').run P w = .ok n w ∧ l.length = n * size ∧ ∃ l' : List Value, (∀ d, (Builtin.firstCells size k v').run P { w with drawn := d } = .ok l'.toArray { w with drawn := d }) ∧ l'.length = k * size ∧
      (∀ (i : Nat) (x y : Value), l[i]? = some x → l'[i]? = some y → VR ρ x y) := by
  unfold asrc at h
  split at h
  · rename_i b o n0 c
    split at h
    · rename_i ro e cs hl
      split at h
      · rename_i hle
        cases h
        obtain ⟨x, c', hx, rfl, _⟩ := vr_slice_inv hv
        obtain ⟨x', cc, fr, hx', hw, hn, hlen, hi, _, _⟩ := hm.row b ro e cs hl
        rw [hx] at hx'; cases hx'
        have hks : k * size ≤ n * size := Nat.mul_le_mul_right _ hk
        refine ⟨rfl, by simp; omega, (cc.toList.drop o).take (k * size), fun d => ?_, by simp; omega, ?_⟩
        · have hlen' : ((cc.toList.drop o).take (k * size)).length = k * size := by simp; omega
          have := run_loadCells_list (P := P) { w with drawn := d } ⟨x.r, o, none⟩ ((cc.toList.drop o).take (k * size)) (fun j y hy => by
            rw [add_plain, cell_of_row { w with drawn := d } x.r (o + j) cc e fr hw]
            rw [List.getElem?_take] at hy
            split at hy
            · rw [List.getElem?_drop] at hy; simpa using hy
            · cases hy)
          rw [hlen'] at this
          exact this
        · intro j y y' hy hy'
          rw [List.getElem?_take] at hy hy'
          split at hy
          · split at hy'
            · rw [List.getElem?_drop] at hy hy'
              obtain ⟨z, hz, hr⟩ := hi _ _ hy
              have : cc.toList[o + j]? = cc[o + j]? := by simp
              rw [this, hz] at hy'
              cases hy'
              exact hr
            · cases hy'
          · cases hy
      · cases h
    · cases h
  · rename_i n0 c
    split at h
    · rename_i h0
      cases h
      have := hv.eq_of_lit2 rfl; subst this
      have hk0 : k = 0 := by omega
      subst hk0
      exact ⟨by subst h0; rfl, by simp, [], fun _ => rfl, by simp, fun i x y hx => by simp at hx⟩
    · cases h
  · rename_i s
    split at h
    · rename_i hs
      cases h
      have := hv.eq_of_lit2 rfl; subst this
      subst hs
      have hsz : s.data.toList.length = s.size := by simp
      refine ⟨by simp [Builtin.lenOf], by simp, (s.data.toList.take k).map fun b => .int .u8 (b.toNat : Int), fun d => ?_, by simp; omega, ?_⟩
      · simp only [Builtin.firstCells, Sem.run_pure]
        congr 1
        apply Array.ext'
        simp [ByteArray.data_extract]
      · intro i x y hx hy
        rw [List.getElem?_map] at hx hy
        rw [List.getElem?_take] at hy
        split at hy
        · cases hd : s.data.toList[i]? with
          | none => rw [hd] at hx; cases hx
          | some q => rw [hd] at hx hy; simp at hx hy; subst hx hy; exact .lit rfl
        · cases hy
    · cases h
  · cases h
end
end Go.Am
