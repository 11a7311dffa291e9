/-
  The abstract machine: what a call leaves: what the answer leads to is kept, the rest is let go (own work; nothing of a dump).
-/
import Derived.Test.YtmopnogcdjehmaaDoorAm5
set_option linter.unusedSimpArgs false
set_option linter.unusedVariables false
namespace Go.Am
noncomputable section

/-- A cell's block, renamed: those below n stay, those that are kept follow from N on. -/
def rid (n N : Nat) (keep : List Nat) (b : Nat) : Option Nat :=
  if b < n then some b else match keep.idxOf? b with
    | some j => some (N + j)
    | none => none

def ren1 (n N : Nat) (keep : List Nat) : Value → Option Value
  | .pointer (some ⟨b, o, none⟩) => match rid n N keep b with
    | some b' => some (.pointer (some ⟨b', o, none⟩))
    | none => none
  | .slice (some ⟨b, o, none⟩) l c => match rid n N keep b with
    | some b' => some (.slice (some ⟨b', o, none⟩) l c)
    | none => none
  | v => if lit0 v then some v else none

def renL (n N : Nat) (keep : List Nat) : List Value → Option (List Value)
  | [] => some []
  | v :: l => match ren1 n N keep v with
    | some v' => match renL n N keep l with
      | some l' => some (v' :: l')
      | none => none
    | none => none

def ren2 (n N : Nat) (keep : List Nat) : Value → Option Value
  | .agg cs => match renL n N keep cs.toList with
    | some l => some (.agg ⟨l⟩)
    | none => none
  | v => ren1 n N keep v

def renT (n N : Nat) (keep : List Nat) : List Value → Option (List Value)
  | [] => some []
  | v :: l => match ren2 n N keep v with
    | some v' => match renT n N keep l with
      | some l' => some (v' :: l')
      | none => none
    | none => none

def ren3 (n N : Nat) (keep : List Nat) : Value → Option Value
  | .tuple vs => match renT n N keep vs.toList with
    | some l => some (.tuple ⟨l⟩)
    | none => none
  | v => ren2 n N keep v

/-- What the renaming of blocks asks of the two placings. -/
structure RR (n N : Nat) (keep : List Nat) (ρ ρ2 : Ren) : Prop where
  old : ∀ b x, b < n → ρ b = some x → ρ2 b = some x
  new : ∀ j b, keep[j]? = some b → ρ2 (N + j) = ρ b

theorem idxOf_get {l : List Nat} {b j : Nat} (h : l.idxOf? b = some j) : l[j]? = some b := by
  unfold List.idxOf? at h
  rw [List.findIdx?_eq_some_iff_getElem] at h
  obtain ⟨hj, hb, _⟩ := h
  simp only [beq_iff_eq] at hb
  simp [hj, hb]

theorem rid_vr {n N : Nat} {keep : List Nat} {ρ ρ2 : Ren} (h : RR n N keep ρ ρ2) {b b' : Nat} {x : At} (hr : rid n N keep b = some b') (hx : ρ b = some x) : ρ2 b' = some x := by
  unfold rid at hr
  split at hr
  · cases hr; exact h.old _ _ ‹_› hx
  · split at hr
    · rename_i j hj
      cases hr
      rw [h.new j b (idxOf_get hj)]; exact hx
    · cases hr

theorem ren1_vr {n N : Nat} {keep : List Nat} {ρ ρ2 : Ren} (h : RR n N keep ρ ρ2) {v v' u : Value} (hr : ren1 n N keep v = some u) (hv : VR ρ v v') : VR ρ2 u v' := by
  unfold ren1 at hr
  split at hr
  · split at hr
    · rename_i b' hb
      cases hr
      obtain ⟨x, hx, rfl⟩ := vr_ptr_inv hv
      exact .ptr (rid_vr h hb hx)
    · cases hr
  · split at hr
    · rename_i b' hb
      cases hr
      obtain ⟨x, c', hx, rfl, hc⟩ := vr_slice_inv hv
      exact .slice (rid_vr h hb hx) hc
    · cases hr
  · split at hr
    · rename_i hl
      cases hr
      rw [hv.eq_of_lit0 hl]
      exact .lit (lit2_of_lit1 (lit1_of_lit0 hl))
    · cases hr

theorem renL_vr {n N : Nat} {keep : List Nat} {ρ ρ2 : Ren} (h : RR n N keep ρ ρ2) : ∀ {l l2 : List Value}, renL n N keep l = some l2 →
    l2.length = l.length ∧ ∀ (i : Nat) (u : Value), l2[i]? = some u → ∃ v, l[i]? = some v ∧ ∀ v', VR ρ v v' → VR ρ2 u v'
  | [], l2, hr => by simp [renL] at hr; subst hr; exact ⟨rfl, fun i u hu => by simp at hu⟩
  | v :: l, l2, hr => by
    unfold renL at hr
    split at hr
    · rename_i v1 h1
      split at hr
      · rename_i l1 h2
        cases hr
        obtain ⟨e, ih⟩ := renL_vr h h2
        refine ⟨by simp [e], fun i u hu => ?_⟩
        cases i with
        | zero => simp at hu; subst hu; exact ⟨v, rfl, fun v' hv => ren1_vr h h1 hv⟩
        | succ i => simp at hu; obtain ⟨y, hy, hh⟩ := ih i u hu; exact ⟨y, by simpa using hy, hh⟩
      · cases hr
    · cases hr

theorem ren2_vr {n N : Nat} {keep : List Nat} {ρ ρ2 : Ren} (h : RR n N keep ρ ρ2) {v v' u : Value} (hr : ren2 n N keep v = some u) (hv : VR ρ v v') : VR ρ2 u v' := by
  unfold ren2 at hr
  split at hr
  · rename_i cs
    split at hr
    · rename_i l hl
      cases hr
      obtain ⟨e, hi⟩ := renL_vr h hl
      cases hv with
      | lit hlit =>
        refine VR.agg (l' := cs.toList) e fun i x y hx hy => ?_
        obtain ⟨z, hz, hh⟩ := hi i x hx
        rw [hz] at hy
        simp only [Option.some.injEq] at hy
        subst hy
        simp only [lit2, lit1] at hlit
        exact hh _ (.lit (lit2_of_lit1 (lit1_of_lit0 ((List.all_eq_true.1 hlit) z (List.mem_of_getElem? hz)))))
      | agg hn hx =>
        refine VR.agg (by rw [e]; exact hn) fun i x y hx' hy => ?_
        obtain ⟨z, hz, hh⟩ := hi i x hx'
        exact hh _ (hx i z y hz hy)
    · cases hr
  · exact ren1_vr h hr hv

theorem renT_vr {n N : Nat} {keep : List Nat} {ρ ρ2 : Ren} (h : RR n N keep ρ ρ2) : ∀ {l l2 : List Value}, renT n N keep l = some l2 →
    l2.length = l.length ∧ ∀ (i : Nat) (u : Value), l2[i]? = some u → ∃ v, l[i]? = some v ∧ ∀ v', VR ρ v v' → VR ρ2 u v'
  | [], l2, hr => by simp [renT] at hr; subst hr; exact ⟨rfl, fun i u hu => by simp at hu⟩
  | v :: l, l2, hr => by
    unfold renT at hr
    split at hr
    · rename_i v1 h1
      split at hr
      · rename_i l1 h2
        cases hr
        obtain ⟨e, ih⟩ := renT_vr h h2
        refine ⟨by simp [e], fun i u hu => ?_⟩
        cases i with
        | zero => simp at hu; subst hu; exact ⟨v, rfl, fun v' hv => ren2_vr h h1 hv⟩
        | succ i => simp at hu; obtain ⟨y, hy, hh⟩ := ih i u hu; exact ⟨y, by simpa using hy, hh⟩
      · cases hr
    · cases hr

theorem ren3_vr {n N : Nat} {keep : List Nat} {ρ ρ2 : Ren} (h : RR n N keep ρ ρ2) {v v' u : Value} (hr : ren3 n N keep v = some u) (hv : VR ρ v v') : VR ρ2 u v' := by
  unfold ren3 at hr
  split at hr
  · rename_i vs
    split at hr
    · rename_i l hl
      cases hr
      obtain ⟨e, hi⟩ := renT_vr h hl
      cases hv with
      | lit hlit =>
        refine VR.tuple (l' := vs.toList) e fun i x y hx hy => ?_
        obtain ⟨z, hz, hh⟩ := hi i x hx
        rw [hz] at hy
        simp only [Option.some.injEq] at hy
        subst hy
        simp only [lit2] at hlit
        exact hh _ (.lit (lit2_of_lit1 ((List.all_eq_true.1 hlit) z (List.mem_of_getElem? hz))))
      | tuple hn hx =>
        refine VR.tuple (by rw [e]; exact hn) fun i x y hx' hy => ?_
        obtain ⟨z, hz, hh⟩ := hi i x hx'
        exact hh _ (hx i z y hz hy)
    · cases hr
  · exact ren2_vr h hr hv

/-- The kept blocks, renamed. -/
def renB (n N : Nat) (keep : List Nat) (m1 : Mem) : List Nat → Option (List Blk)
  | [] => some []
  | b :: l => match m1[b]? with
    | some (.row ro e cs) => match renL n N keep cs with
      | some cs' => match renB n N keep m1 l with
        | some l' => some (.row ro e cs' :: l')
        | none => none
      | none => none
    | _ => none

theorem renB_get {n N : Nat} {keep : List Nat} {m1 : Mem} : ∀ {l : List Nat} {bs : List Blk}, renB n N keep m1 l = some bs →
    bs.length = l.length ∧ ∀ (j : Nat) (x : Blk), bs[j]? = some x → ∃ b ro e cs cs', l[j]? = some b ∧ m1[b]? = some (.row ro e cs) ∧ renL n N keep cs = some cs' ∧ x = .row ro e cs'
  | [], bs, h => by simp [renB] at h; subst h; exact ⟨rfl, fun j x hx => by simp at hx⟩
  | b :: l, bs, h => by
    unfold renB at h
    split at h
    · rename_i ro e cs hb
      split at h
      · rename_i cs' hcs
        split at h
        · rename_i l' hl
          cases h
          obtain ⟨e1, ih⟩ := renB_get hl
          refine ⟨by simp [e1], fun j x hx => ?_⟩
          cases j with
          | zero => simp at hx; subst hx; exact ⟨b, ro, e, cs, cs', rfl, hb, hcs, rfl⟩
          | succ j => simp at hx; obtain ⟨b', ro', e', c1, c2, h1, h2⟩ := ih j x hx; exact ⟨b', ro', e', c1, c2, by simpa using h1, h2⟩
        · cases h
      · cases h
    · cases h

/-- The block that a cell leads to, if it is a new one. -/
def idOf (n : Nat) : Value → List Nat
  | .pointer (some a) => if a.block < n then [] else [a.block]
  | .slice (some a) _ _ => if a.block < n then [] else [a.block]
  | _ => []

def idsL (n : Nat) : List Value → List Nat → List Nat
  | [], acc => acc
  | v :: l, acc => idsL n l (match idOf n v with
    | [] => acc
    | b :: _ => if acc.contains b then acc else acc ++ [b])

def partsOf : Value → List Value
  | .agg cs => cs.toList
  | .tuple vs => vs.toList.flatMap fun | .agg cs => cs.toList | v => [v]
  | v => [v]

/-- What the kept blocks lead to, too. -/
def closeIds (n : Nat) (m1 : Mem) : Nat → List Nat → List Nat
  | 0, acc => acc
  | d + 1, acc => closeIds n m1 d (acc.foldl (fun (a : List Nat) (b : Nat) => match m1[b]? with | some (Blk.row _ _ cs) => idsL n cs a | _ => a) acc)

/-- All of a list are different. -/
def nodupB : List Nat → Bool
  | [] => true
  | b :: l => !l.contains b && nodupB l

theorem nodupB_get : ∀ {l : List Nat}, nodupB l = true → ∀ {i j : Nat} {b : Nat}, l[i]? = some b → l[j]? = some b → i = j
  | [], _, i, j, b, h, _ => by simp at h
  | a :: l, hn, i, j, b, hi, hj => by
    simp only [nodupB, Bool.and_eq_true, Bool.not_eq_true', List.contains_eq_mem] at hn
    obtain ⟨h1, h2⟩ := hn
    have h1' : a ∉ l := by simpa using h1
    cases i with
    | zero =>
      cases j with
      | zero => rfl
      | succ j => simp at hi hj; subst hi; exact absurd (List.mem_of_getElem? hj) h1'
    | succ i =>
      cases j with
      | zero => simp at hi hj; subst hj; exact absurd (List.mem_of_getElem? hi) h1'
      | succ j => simp at hi hj; rw [nodupB_get h2 hi hj]

/-- A call behind which nothing that was there has turned: the answer, and the memory with what it leads to. -/
def acoll (m : Mem) (n : Nat) (v : Value) (m1 : Mem) : Option (Value × Mem) :=
  if lit2 v then some (v, m) else
    let keep := closeIds n m1 2 (idsL n (partsOf v) [])
    if nodupB keep && keep.all (fun b => decide (n ≤ b)) then
      match renB n m.length keep m1 keep with
      | some bs => match ren3 n m.length keep v with
        | some v' => some (v', m ++ bs)
        | none => none
      | none => none
    else none

theorem acoll_sound {P : Program} {ρ ρv ρ1 : Ren} {m mv m1 m2 : Mem} {w w1 : World} {n : Nat} {v v' v2 : Value} (hm : MR P ρ m w) (hn : n = mv.length)     (hρ : ∀ k x, ρv k = some x → ρ k = some x) (hro : ∀ (k : Nat) (e : TypeId) (cs : List Value), mv[k]? ≠ some (Blk.row false e cs)) (hm1 : MR P ρ1 m1 w1) (hx : Ext ρv mv w ρ1 m1 w1) (hv : VR ρ1 v v')
    (h : acoll m n v m1 = some (v2, m2)) : ∃ ρ2, VR ρ2 v2 v' ∧ MR P ρ2 m2 w1 ∧ Ext ρ m w ρ2 m2 w1 := by
  have hheap : ∀ r, r < w.heap.size → w1.heap[r]? = w.heap[r]? := fun r hr => hx.kept r hr fun k e cs x hk _ => absurd hk (hro k e cs)
  have hfresh : ∀ k x, n ≤ k → ρ1 k = some x → w.heap.size ≤ x.r := by
    intro k x hk hkx
    rcases hx.fresh k x (by omega) hkx with h1 | ⟨k0, e0, cs0, _, h0, _⟩
    · exact h1
    · exact absurd h0 (hro k0 e0 cs0)
  have hmw : MR P ρ m w1 := by
    refine ⟨hm.dom, fun k x hk => Nat.lt_of_lt_of_le (hm.bnd k x hk) hx.size, hm.glob, fun k ro e cs hk => ?_, hm.inj, hm.tab⟩
    obtain ⟨x, c, fr, h1, h2, h3⟩ := hm.row k ro e cs hk
    exact ⟨x, c, fr, h1, by rw [hheap _ (hm.bnd k x h1)]; exact h2, h3⟩
  have hxt : Ext ρ m w ρ m w1 :=
    ⟨Ren.le_refl _, fun _ _ => rfl, Nat.le_refl _, fun k x hk hx' => by (rw [hm.dom k hk] at hx'; cases hx'), hx.os, hx.tape, hx.output, hx.size, fun r hr _ => hheap r hr, fun k e cs x hk hx' => .inr ⟨k, e, cs, x, hk, hx', rfl⟩⟩
  unfold acoll at h
  split at h
  · rename_i hl
    cases h
    rw [hv.eq_of_lit2 hl]
    exact ⟨ρ, .lit hl, hmw, hxt⟩
  · simp only at h
    generalize closeIds n m1 2 (idsL n (partsOf v) []) = keep at h
    split at h
    · rename_i hk
      simp only [Bool.and_eq_true] at hk
      obtain ⟨hnd, hge⟩ := hk
      split at h
      · rename_i bs hbs
        split at h
        · rename_i v3 hv3
          cases h
          obtain ⟨hlen, hget⟩ := renB_get hbs
          let ρ2 : Ren := fun k => if k < m.length then ρ k else (keep[k - m.length]?).bind ρ1
          have hold : ∀ k, k < m.length → ρ2 k = ρ k := fun k hk => by simp only [ρ2, hk, if_true]
          have hnew : ∀ k, m.length ≤ k → ρ2 k = (keep[k - m.length]?).bind ρ1 := fun k hk => by simp only [ρ2]; rw [if_neg (by omega)]
          have hle : ρ.le ρ2 := by
            intro k x hk
            by_cases hlt : k < m.length
            · rw [hold k hlt]; exact hk
            · rw [hm.dom k (by omega)] at hk; cases hk
          have hRR : RR n m.length keep ρ1 ρ2 := by
            refine ⟨fun b x hb hbx => ?_, fun j b hj => ?_⟩
            · rw [hx.same b (by omega)] at hbx
              exact hle _ _ (hρ b x hbx)
            · rw [hnew _ (by omega), Nat.add_sub_cancel_left, hj]; rfl
          have hcase : ∀ k b, (m ++ bs)[k]? = some b → (k < m.length ∧ m[k]? = some b) ∨ (m.length ≤ k ∧ bs[k - m.length]? = some b) := by
            intro k b hb
            by_cases hk : k < m.length
            · left; rw [List.getElem?_append_left hk] at hb; exact ⟨hk, hb⟩
            · right; rw [List.getElem?_append_right (by omega)] at hb; exact ⟨by omega, hb⟩
          have hlook : ∀ k q, look (m ++ bs) k = some q → (k < m.length ∧ look m k = some q) ∨ (m.length ≤ k ∧ ∃ b, bs[k - m.length]? = some b ∧ b.cells? = some q) := by
            intro k q hq
            unfold look at hq
            split at hq
            · rename_i b hb
              rcases hcase k b hb with ⟨hk, hb⟩ | ⟨hk, hb⟩
              · left; exact ⟨hk, by simp [look, hb, hq]⟩
              · right; exact ⟨hk, b, hb, hq⟩
            · cases hq
          have hkge : ∀ j b, keep[j]? = some b → n ≤ b := fun j b hj => by simpa using (List.all_eq_true.1 hge) b (List.mem_of_getElem? hj)
          have hnewx : ∀ k x, m.length ≤ k → ρ2 k = some x → ∃ b, keep[k - m.length]? = some b ∧ ρ1 b = some x := by
            intro k x hk hkx
            rw [hnew k hk] at hkx
            cases hj : keep[k - m.length]? with
            | none => rw [hj] at hkx; cases hkx
            | some b => rw [hj] at hkx; exact ⟨b, rfl, hkx⟩
          refine ⟨ρ2, ren3_vr hRR hv3 hv, ⟨?_, ?_, fun g hg => (hm.glob g hg).imp fun x hx' => ⟨hle _ _ hx'.1, hx'.2⟩, ?_, ?_, ?_⟩, ⟨hle, hold, by simp, ?_, hx.os, hx.tape, hx.output, hx.size, fun r hr _ => hheap r hr, ?_⟩⟩
          · intro k hk
            simp at hk
            rw [hnew k (by omega), List.getElem?_eq_none (by omega)]; rfl
          · intro k x hkx
            by_cases hlt : k < m.length
            · rw [hold k hlt] at hkx; exact Nat.lt_of_lt_of_le (hm.bnd k x hkx) hx.size
            · obtain ⟨b, _, hb⟩ := hnewx k x (by omega) hkx
              exact hm1.bnd b x hb
          · intro k ro e cs hb
            rcases hlook k _ hb with ⟨hk, hb'⟩ | ⟨hk, b9, hb', hb9⟩
            · obtain ⟨x, c, fr, h1, h2, h3, h4, h5, h6, h7⟩ := hmw.row k ro e cs hb'
              exact ⟨x, c, fr, hle _ _ h1, h2, h3, h4, fun i u hu => (h5 i u hu).imp fun y hy => ⟨hy.1, hy.2.mono hle⟩, h6, h7⟩
            · obtain ⟨b, ro', e', c1, c2, hj, hmb, hrl, he⟩ := hget _ _ hb'
              subst he
              simp only [Blk.cells?, Option.some.injEq, Prod.mk.injEq] at hb9
              obtain ⟨rfl, rfl, rfl⟩ := hb9
              obtain ⟨x, c, fr, h1, h2, h3, h4, h5, h6, h7⟩ := hm1.row b _ _ c1 (look_row hmb)
              obtain ⟨hl1, hl2⟩ := renL_vr hRR hrl
              refine ⟨x, c, fr, by rw [hnew k hk, hj]; exact h1, h2, h3, by omega, fun i u hu => ?_, h6, h7⟩
              obtain ⟨z, hz, hh⟩ := hl2 i u hu
              obtain ⟨y, hy, hyv⟩ := h5 i z hz
              exact ⟨y, hy, hh y hyv⟩
          · intro k e cs k' ro' e' cs' x x' hb hb' hkx hkx' hr
            rcases hcase k _ hb with ⟨hk, hb1⟩ | ⟨hk, hb1⟩
            · rw [hold k hk] at hkx
              rcases hlook k' _ hb' with ⟨hk', hb2⟩ | ⟨hk', b8, hb2, hb8⟩
              · rw [hold k' hk'] at hkx'
                exact hm.inj k e cs k' ro' e' cs' x x' hb1 hb2 hkx hkx' hr
              · obtain ⟨b, hj, hbx⟩ := hnewx k' x' hk' hkx'
                have h1 := hfresh b x' (hkge _ _ hj) hbx
                have h2 := hm.bnd k x hkx
                omega
            · obtain ⟨b, hj, hbx⟩ := hnewx k x hk hkx
              have h1 := hfresh b x (hkge _ _ hj) hbx
              rcases hlook k' _ hb' with ⟨hk', hb2⟩ | ⟨hk', b8, hb2, hb8⟩
              · rw [hold k' hk'] at hkx'
                have h2 := hm.bnd k' x' hkx'
                omega
              · obtain ⟨b', hj', hbx'⟩ := hnewx k' x' hk' hkx'
                obtain ⟨bb, r1, e1, c1, c2, hj1, hm1b, _, he1⟩ := hget _ _ hb1
                obtain ⟨bb', r2, e2, c3, c4, hj2, hm1b', _, he2⟩ := hget _ _ hb2
                cases he1
                subst he2
                simp only [Blk.cells?, Option.some.injEq, Prod.mk.injEq] at hb8
                obtain ⟨rfl, rfl, rfl⟩ := hb8
                rw [hj] at hj1; cases hj1
                rw [hj'] at hj2; cases hj2
                have := hm1.inj b e c1 b' _ _ c3 x x' hm1b (look_row hm1b') hbx hbx' hr
                subst this
                have := nodupB_get hnd hj hj'
                omega
          · intro k e cs hb
            rcases hcase k _ hb with ⟨hk, hb1⟩ | ⟨hk, hb1⟩
            · exact hm.tab k e cs hb1
            · obtain ⟨_, _, _, _, _, _, _, _, he⟩ := hget _ _ hb1
              cases he
          · intro k x hk hkx
            obtain ⟨b, hj, hbx⟩ := hnewx k x hk hkx
            left; exact hfresh b x (hkge _ _ hj) hbx
          · intro k e cs x hb hkx
            rcases hcase k _ hb with ⟨hk, hb1⟩ | ⟨hk, hb1⟩
            · rw [hold k hk] at hkx
              right; exact ⟨k, e, cs, x, hb1, hkx, rfl⟩
            · obtain ⟨b, hj, hbx⟩ := hnewx k x hk hkx
              left; exact hfresh b x (hkge _ _ hj) hbx
        · cases h
      · cases h
    · cases h

end
end Go.Am
