/-
  Texts of my own, put together: K4, K5.
-/
import Derived.Test.YtfgincdpgdlfnaaDoorGrLimbTexts6
set_option linter.unusedSimpArgs false
set_option linter.unusedVariables false
namespace Go.Am
noncomputable section
def lateB (P : Program) (wr : FuncId → Bool) (ops : Array Oper) (i : Nat) : Bool :=
  (List.range ops.size).all fun j => !isW P wr ops j || (decide (j < i) && chainB ops 4 i j)
def opsBelow (n : Nat) (T : List Value) (o : Oper) : Bool := o.op.operands.toList.all fun x => belowC n 4 (ev T x)
def amkT (E : Env) (self : Self) (ops : Array Oper) (m : Mem) : List Oper → Nat → List Value → List Blk → Option (List Value × List Blk)
  | [], _, T, nb => some (T, nb)
  | o :: l, i, T, nb => match agd ops T o with
    | some true => if okOp E.P o.op then match cls E.P E.wr o with
        | 0 => match afloat E.P T o with
          | some v => amkT E self ops m l (i + 1) (aput T o.dst v) nb
          | none => none
        | 1 => match lateB E.P E.wr ops i with
          | true => match astep E self T ((m ++ nb).map sealed) o with
            | some (v, m1) => if m1.length = m.length + nb.length then amkT E self ops m l (i + 1) (aput T o.dst v) nb else none
            | none => none
          | false => if opsBelow m.length T o then match astep E self T (m.map sealed) o with
              | some (v, m1) => match acollAt m.length (m.length + nb.length) v m1 with
                | some (v', []) => amkT E self ops m l (i + 1) (aput T o.dst v') nb
                | _ => none
              | none => none
            else none
        | _ => if opsBelow m.length T o then match astep E self T (m.map sealed) o with
            | some (v, m1) => match acollAt m.length (m.length + nb.length) v m1 with
              | some (v', bs) => amkT E self ops m l (i + 1) (aput T o.dst v') (nb ++ bs)
              | none => none
            | none => none
          else none
      else none
    | some false => amkT E self ops m l (i + 1) (aput T o.dst undef) nb
    | none => none
def amk0 (E : Env) (self : Self) (ops : Array Oper) (T : List Value) (m : Mem) : Option (List Value × Mem) := match amkT E self ops m ops.toList 0 T [] with
  | some (T1, nb) => some (T1, m ++ nb)
  | none => none
def mkOkB (ops : Array Oper) : Bool := Region.noSelect ops && (edgesB ops && slotsB ops)
def KStp (E : Env) (self : Self) (ops : Array Oper) (m : Mem) (i : Nat) (o : Oper) (T : List Value) (nb : List Blk) (T' : List Value) (nb' : List Blk) : Prop :=
  ∃ v, T' = aput T o.dst v ∧ (
    (agd ops T o = some false ∧ v = undef ∧ nb' = nb) ∨
    (agd ops T o = some true ∧ okOp E.P o.op = true ∧ ((afloat E.P T o = some v ∧ nb' = nb) ∨
      (lateB E.P E.wr ops i = true ∧ nb' = nb ∧ ∃ m1, astep E self T ((m ++ nb).map sealed) o = some (v, m1) ∧ m1.length = m.length + nb.length) ∨
      (opsBelow m.length T o = true ∧ ∃ v0 m1 bs, astep E self T (m.map sealed) o = some (v0, m1) ∧ acollAt m.length (m.length + nb.length) v0 m1 = some (v, bs) ∧ nb' = nb ++ bs ∧ (bs ≠ [] → isW E.P E.wr ops i = true)))))
theorem amkT_trace {E : Env} {self : Self} {ops : Array Oper} {m : Mem} : ∀ (l : List Oper) (i : Nat) (T : List Value) (nb : List Blk) (T1 : List Value) (nb1 : List Blk), (∀ j, l[j]? = ops[i + j]?) → amkT E self ops m l i T nb = some (T1, nb1) →
    ∃ tr : Nat → List Value × List Blk, tr 0 = (T, nb) ∧ tr l.length = (T1, nb1) ∧ ∀ j o, l[j]? = some o → KStp E self ops m (i + j) o (tr j).1 (tr j).2 (tr (j + 1)).1 (tr (j + 1)).2
  | [], i, T, nb, T1, nb1, _, h => by
    simp only [amkT, Option.some.injEq, Prod.mk.injEq] at h
    obtain ⟨rfl, rfl⟩ := h
    exact ⟨fun _ => (T, nb), rfl, rfl, fun j o h => by simp at h⟩
  | o :: l, i, T, nb, T1, nb1, hl, h => by
    have hl' : ∀ j, l[j]? = ops[i + 1 + j]? := fun j => by have := hl (j + 1); simpa [Nat.add_assoc, Nat.add_comm 1 j] using this
    have h0 : ops[i]? = some o := by simpa using (hl 0).symm
    have key : ∀ T2 nb2, KStp E self ops m i o T nb T2 nb2 → amkT E self ops m l (i + 1) T2 nb2 = some (T1, nb1) → ∃ tr : Nat → List Value × List Blk, tr 0 = (T, nb) ∧ tr (o :: l).length = (T1, nb1) ∧
        ∀ j o', (o :: l)[j]? = some o' → KStp E self ops m (i + j) o' (tr j).1 (tr j).2 (tr (j + 1)).1 (tr (j + 1)).2 := by
      intro T2 nb2 hs h2
      obtain ⟨tr, t0, t1, hst⟩ := amkT_trace l (i + 1) T2 nb2 T1 nb1 hl' h2
      refine ⟨fun j => match j with | 0 => (T, nb) | j + 1 => tr j, rfl, t1, fun j o' ho => ?_⟩
      cases j with
      | zero => simp at ho; subst ho; show KStp _ _ _ _ _ _ T nb (tr 0).1 (tr 0).2; rw [t0]; exact hs
      | succ j => simp at ho; have := hst j o' ho; rw [show i + 1 + j = i + (j + 1) by omega] at this; exact this
    unfold amkT at h
    split at h
    · rename_i hg
      split at h
      · rename_i hok
        split at h
        · split at h
          · rename_i v hf
            exact key _ _ ⟨v, rfl, .inr ⟨hg, hok, .inl ⟨hf, rfl⟩⟩⟩ h
          · cases h
        · split at h
          · rename_i hla
            split at h
            · rename_i v m1 hst
              split at h
              · rename_i hlen
                exact key _ _ ⟨v, rfl, .inr ⟨hg, hok, .inr (.inl ⟨hla, rfl, m1, hst, hlen⟩)⟩⟩ h
              · cases h
            · cases h
          · split at h
            · rename_i hb
              split at h
              · rename_i v m1 hst
                split at h
                · rename_i v' hc
                  exact key _ _ ⟨v', rfl, .inr ⟨hg, hok, .inr (.inr ⟨hb, v, m1, [], hst, hc, by simp, fun h => absurd rfl h⟩)⟩⟩ h
                · cases h
              · cases h
            · cases h
        · rename_i hc0 hc1
          split at h
          · rename_i hb
            split at h
            · rename_i v m1 hst
              split at h
              · rename_i v' bs hc
                refine key _ _ ⟨v', rfl, .inr ⟨hg, hok, .inr (.inr ⟨hb, v, m1, bs, hst, hc, rfl, fun _ => ?_⟩)⟩⟩ h
                unfold isW
                rw [h0]
                have hle := cls_le E.P E.wr o
                have h2 : cls E.P E.wr o = 2 := by
                  rcases Nat.lt_or_ge (cls E.P E.wr o) 1 with h3 | h3
                  · exact absurd (by omega) hc0
                  · rcases Nat.lt_or_ge (cls E.P E.wr o) 2 with h4 | h4
                    · exact absurd (by omega) hc1
                    · omega
                simp [h2]
              · cases h
            · cases h
          · cases h
      · cases h
    · rename_i hg
      exact key _ _ ⟨undef, rfl, .inl ⟨hg, rfl, rfl⟩⟩ h
    · cases h
structure KTrace (E : Env) (sf : Self) (ops : Array Oper) (m : Mem) (tr : Nat → List Value × List Blk) : Prop where
  step : ∀ (i : Nat) (o : Oper), ops[i]? = some o → KStp E sf ops m i o (tr i).1 (tr i).2 (tr (i + 1)).1 (tr (i + 1)).2
  zero : (tr 0).2 = []
namespace KTrace
variable {E : Env} {self : Self} {ops : Array Oper} {m : Mem} {tr : Nat → List Value × List Blk}
theorem length (h : KTrace E self ops m tr) : ∀ k, k ≤ ops.size → (tr k).1.length = (tr 0).1.length := by
  intro k
  induction k with
  | zero => intro _; rfl
  | succ k ih =>
    intro hk
    obtain ⟨v, hv, _⟩ := h.step k ops[k] (by simp)
    rw [hv, aput_length, ih (by omega)]
theorem old (h : KTrace E self ops m tr) : ∀ k, k ≤ ops.size → ∀ t : Nat, (¬ ∃ j, j < k ∧ DstIs ops j t) → (tr k).1[t]? = (tr 0).1[t]? := by
  intro k
  induction k with
  | zero => intro _ t _; rfl
  | succ k ih =>
    intro hk t hno
    obtain ⟨v, hv, _⟩ := h.step k ops[k] (by simp)
    rw [hv, aput_other, ih (by omega) t fun ⟨j, hj, hd⟩ => hno ⟨j, by omega, hd⟩]
    intro hd
    exact hno ⟨k, by omega, ops[k], by simp, hd⟩
theorem new (h : KTrace E self ops m tr) (hs : slotsB ops = true) : ∀ d k, k + d = ops.size → ∀ t : Nat, (∃ j, j < k ∧ DstIs ops j t) → (tr k).1[t]? = (tr ops.size).1[t]? := by
  intro d
  induction d with
  | zero => intro k hk t _; rw [show k = ops.size by omega]
  | succ d ih =>
    intro k hk t hex
    rw [← ih (k + 1) (by omega) t (by obtain ⟨j, hj, hd⟩ := hex; exact ⟨j, by omega, hd⟩)]
    obtain ⟨v, hv, _⟩ := h.step k ops[k] (by simp)
    rw [hv, aput_other]
    intro hd
    obtain ⟨j, hj, oj, hoj, hdj⟩ := hex
    exact (slotsB_spec hs (i := k) (j := j) (by omega) (by omega) (by omega) (by simp) hoj hdj).1 hd
theorem grows (h : KTrace E self ops m tr) {k : Nat} (hk : k < ops.size) : ∃ bs, (tr (k + 1)).2 = (tr k).2 ++ bs ∧ (bs ≠ [] → isW E.P E.wr ops k = true) := by
  obtain ⟨v, _, h1 | ⟨_, _, h1 | h1 | h1⟩⟩ := h.step k ops[k] (by simp)
  · exact ⟨[], by simp [h1.2.2], fun h => absurd rfl h⟩
  · exact ⟨[], by simp [h1.2], fun h => absurd rfl h⟩
  · exact ⟨[], by simp [h1.2.1], fun h => absurd rfl h⟩
  · obtain ⟨_, _, _, bs, _, _, h2, h3⟩ := h1
    exact ⟨bs, h2, h3⟩
theorem prefix_ (h : KTrace E self ops m tr) : ∀ d k, k + d ≤ ops.size → ∃ bs, (tr (k + d)).2 = (tr k).2 ++ bs := by
  intro d
  induction d with
  | zero => intro k _; exact ⟨[], by simp⟩
  | succ d ih =>
    intro k hk
    obtain ⟨bs, h1⟩ := ih k (by omega)
    obtain ⟨bs2, h2, _⟩ := h.grows (k := k + d) (by omega)
    exact ⟨bs ++ bs2, by rw [show k + (d + 1) = k + d + 1 by omega, h2, h1, List.append_assoc]⟩
theorem mono (h : KTrace E self ops m tr) {i j : Nat} (hij : i ≤ j) (hj : j ≤ ops.size) : (tr i).2.length ≤ (tr j).2.length := by
  obtain ⟨bs, h1⟩ := h.prefix_ (j - i) i (by omega)
  rw [show i + (j - i) = j by omega] at h1
  rw [h1]; simp
theorem owner (h : KTrace E self ops m tr) {b : Nat} : ∀ k, k ≤ ops.size → b < (tr k).2.length → ∃ i, i < k ∧ (tr i).2.length ≤ b ∧ b < (tr (i + 1)).2.length := by
  intro k
  induction k with
  | zero => intro _ hb; rw [h.zero] at hb; simp at hb
  | succ k ih =>
    intro hk hb
    by_cases hlt : b < (tr k).2.length
    · obtain ⟨i, hi, h1⟩ := ih (by omega) hlt
      exact ⟨i, by omega, h1⟩
    · exact ⟨k, by omega, by omega, hb⟩
theorem owner_unique (h : KTrace E self ops m tr) {b i j : Nat} (hi : i < ops.size) (hj : j < ops.size) (h1 : (tr i).2.length ≤ b ∧ b < (tr (i + 1)).2.length) (h2 : (tr j).2.length ≤ b ∧ b < (tr (j + 1)).2.length) : i = j := by
  rcases Nat.lt_trichotomy i j with hlt | rfl | hlt
  · have := h.mono (i := i + 1) (j := j) (by omega) (by omega); omega
  · rfl
  · have := h.mono (i := j + 1) (j := i) (by omega) (by omega); omega
end KTrace
def kb (tr : Nat → List Value × List Blk) (n : Nat) (L : Array Bool) (b : Nat) : Blk :=
  match (List.range n).find? (fun i => decide ((tr i).2.length ≤ b ∧ b < (tr (i + 1)).2.length)) with
  | some i => if L.getD i false then (tr n).2.getD b .dead else .dead
  | none => .dead
def mK (m : Mem) (tr : Nat → List Value × List Blk) (n : Nat) (L : Array Bool) : Mem := m ++ (List.range (tr n).2.length).map (kb tr n L)
theorem mK_length {m : Mem} {tr : Nat → List Value × List Blk} {n : Nat} {L : Array Bool} : (mK m tr n L).length = m.length + (tr n).2.length := by simp [mK]
theorem mK_old {m : Mem} {tr : Nat → List Value × List Blk} {n : Nat} {L : Array Bool} {k : Nat} (h : k < m.length) : (mK m tr n L)[k]? = m[k]? := by
  unfold mK; rw [List.getElem?_append_left h]
theorem mK_new {m : Mem} {tr : Nat → List Value × List Blk} {n : Nat} {L : Array Bool} {b : Nat} (h : b < (tr n).2.length) : (mK m tr n L)[m.length + b]? = some (kb tr n L b) := by
  unfold mK
  rw [List.getElem?_append_right (by omega), Nat.add_sub_cancel_left, List.getElem?_map, List.getElem?_range h]
  rfl
section
variable {E : Env} {self : Self} {ops : Array Oper} {m : Mem} {tr : Nat → List Value × List Blk}
theorem kb_owner (h : KTrace E self ops m tr) {i b : Nat} (hi : i < ops.size) (hb : (tr i).2.length ≤ b ∧ b < (tr (i + 1)).2.length) (L : Array Bool) : kb tr ops.size L b = if L.getD i false then (tr ops.size).2.getD b .dead else .dead := by
  unfold kb
  have : (List.range ops.size).find? (fun i => decide ((tr i).2.length ≤ b ∧ b < (tr (i + 1)).2.length)) = some i := by
    cases hf : (List.range ops.size).find? (fun i => decide ((tr i).2.length ≤ b ∧ b < (tr (i + 1)).2.length)) with
    | none =>
      rw [List.find?_eq_none] at hf
      have := hf i (List.mem_range.2 hi)
      simp [hb.1, hb.2] at this
    | some j =>
      have h1 := List.find?_some hf
      have h2 := List.mem_range.1 (List.mem_of_find?_eq_some hf)
      rw [h.owner_unique hi h2 hb (by simpa using h1)]
  rw [this]
theorem mK_same (h : KTrace E self ops m tr) {i : Nat} (hi : i < ops.size) (hs : (tr (i + 1)).2 = (tr i).2) {L : Array Bool} (hL : i < L.size) : mK m tr ops.size (L.setIfInBounds i true) = mK m tr ops.size L := by
  unfold mK
  congr 1
  refine List.map_congr_left fun b hb => ?_
  obtain ⟨j, hj, h1⟩ := h.owner ops.size (Nat.le_refl _) (List.mem_range.1 hb)
  rw [kb_owner h hj h1, kb_owner h hj h1, getD_put hL]
  have hji : j ≠ i := by
    rintro rfl
    rw [hs] at h1
    omega
  rw [if_neg hji]
theorem mK_set (h : KTrace E self ops m tr) {i : Nat} (hi : i < ops.size) {bs : List Blk} (hs : (tr (i + 1)).2 = (tr i).2 ++ bs) {L : Array Bool} (hL : i < L.size) (hun : L.getD i false = false) :
    m.length + (tr i).2.length + bs.length ≤ (mK m tr ops.size L).length ∧ (∀ j, j < bs.length → (mK m tr ops.size L)[m.length + (tr i).2.length + j]? = some .dead) ∧
    setAll (mK m tr ops.size L) (m.length + (tr i).2.length) bs = mK m tr ops.size (L.setIfInBounds i true) := by
  have hle : (tr (i + 1)).2.length ≤ (tr ops.size).2.length := h.mono (by omega) (Nat.le_refl _)
  have hlen1 : (tr (i + 1)).2.length = (tr i).2.length + bs.length := by rw [hs]; simp
  have hfit : m.length + (tr i).2.length + bs.length ≤ (mK m tr ops.size L).length := by rw [mK_length]; omega
  have hown : ∀ j, j < bs.length → (tr i).2.length ≤ (tr i).2.length + j ∧ (tr i).2.length + j < (tr (i + 1)).2.length := fun j hj => ⟨by omega, by omega⟩
  refine ⟨hfit, fun j hj => ?_, ?_⟩
  · rw [Nat.add_assoc, mK_new (by omega), kb_owner h hi (hown j hj), hun]
    simp
  · apply List.ext_getElem?
    intro k
    rw [setAll_get hfit]
    by_cases hk : k < m.length
    · rw [if_neg (by omega), mK_old hk, mK_old hk]
    · obtain ⟨b, rfl⟩ : ∃ b, k = m.length + b := ⟨k - m.length, by omega⟩
      by_cases hb : b < (tr ops.size).2.length
      · rw [mK_new hb, mK_new hb]
        by_cases hin : m.length + (tr i).2.length ≤ m.length + b ∧ m.length + b < m.length + (tr i).2.length + bs.length
        · rw [if_pos hin]
          have ho : (tr i).2.length ≤ b ∧ b < (tr (i + 1)).2.length := ⟨by omega, by omega⟩
          rw [kb_owner h hi ho, getD_put hL, if_pos rfl]
          simp only [if_true]
          obtain ⟨bs2, h2⟩ := h.prefix_ (ops.size - (i + 1)) (i + 1) (by omega)
          rw [show i + 1 + (ops.size - (i + 1)) = ops.size by omega] at h2
          rw [h2, hs, List.getD_eq_getElem?_getD, List.append_assoc, List.getElem?_append_right (by omega), List.getElem?_append_left (by omega)]
          rw [show m.length + b - (m.length + (tr i).2.length) = b - (tr i).2.length by omega]
          have hlt : b - (tr i).2.length < bs.length := by omega
          simp [hlt]
        · rw [if_neg hin]
          obtain ⟨j, hj, h1⟩ := h.owner ops.size (Nat.le_refl _) hb
          rw [kb_owner h hj h1, kb_owner h hj h1, getD_put hL]
          have hji : j ≠ i := by
            rintro rfl
            omega
          rw [if_neg hji]
      · rw [if_neg (by omega), List.getElem?_eq_none (by rw [mK_length]; omega), List.getElem?_eq_none (by rw [mK_length]; omega)]
theorem mK_all (h : KTrace E self ops m tr) {L : Array Bool} (hL : ∀ j, isW E.P E.wr ops j = true → L.getD j false = true) : mK m tr ops.size L = m ++ (tr ops.size).2 := by
  unfold mK
  congr 1
  apply List.ext_getElem?
  intro b
  rw [List.getElem?_map]
  by_cases hb : b < (tr ops.size).2.length
  · rw [List.getElem?_range hb]
    obtain ⟨j, hj, h1⟩ := h.owner ops.size (Nat.le_refl _) hb
    obtain ⟨bs, h2, h3⟩ := h.grows hj
    have hne : bs ≠ [] := by
      rintro rfl
      simp at h2
      rw [h2] at h1
      omega
    simp only [Option.map_some, kb_owner h hj h1, hL j (h3 hne), if_true]
    simp [hb]
  · rw [List.getElem?_eq_none (by simp; omega), List.getElem?_eq_none (by omega)]
    rfl
end
structure KInv (D : List Deferred) (E : Env) (ops : Array Oper) (m : Mem) (tr : Nat → List Value × List Blk) (ρ0 : Ren) (w0 : World) (L : Array Bool) (a : Act) (w : World) : Prop where
  head : HeadInv .any ops ops.size L
  defers : a.defers = D
  size : (tr 0).1.length = a.tmps.size
  ex : ∃ (ρ : Ren), MR E.P ρ (mK m tr ops.size L) w ∧ Ext ρ0 m w0 ρ (mK m tr ops.size L) w ∧ MR E.P ρ0 m w ∧
    (∀ i b, i < ops.size → (tr i).2.length ≤ b → b < (tr (i + 1)).2.length → L.getD i false = false → ρ (m.length + b) = none) ∧
    (∀ (t : Nat) (x y : Value), (∃ j, j < ops.size ∧ DstIs ops j t ∧ L.getD j false = true) → (tr ops.size).1[t]? = some x → a.tmps[t]? = some y → VR ρ x y) ∧
    (∀ (t : Nat) (x y : Value), (¬ ∃ j, j < ops.size ∧ DstIs ops j t ∧ L.getD j false = true) → (tr 0).1[t]? = some x → a.tmps[t]? = some y → VR ρ x y)
theorem mk_step {D : List Deferred} {E : Env} {self : Self} (hs : CallOK E.P (ainv E self)) (hnum : noNum E.P) (hx9 : XOK E) {ops : Array Oper} (hslots : slotsB ops = true)
    {m : Mem} {tr : Nat → List Value × List Blk} (ht : KTrace E self ops m tr) {ρ0 : Ren} {w0 : World}
    (L : Array Bool) (a : Act) (w : World) (hi : KInv D E ops m tr ρ0 w0 L a w) {i : Nat} (hr : i ∈ Region.ready .any ops L) {K : Act → World → Prop} {Q : Exit → Act → World → Prop}
    (hK : ∀ a1 w1, KInv D E ops m tr ρ0 w0 (L.setIfInBounds i true) a1 w1 → K a1 w1) : wpOp E.P ops Q i K a w := by
  obtain ⟨hun, oi, hoi, hall⟩ := mem_ready.1 hr
  have hip : i < ops.size := (Array.getElem?_eq_some_iff.1 hoi).1
  have hunf := getD_both hun
  have hLsz : i < L.size := by rw [hi.head.size]; exact hip
  obtain ⟨ρ, hmr, hext, hm0, hnone, hnew, hold⟩ := hi.ex
  -- the slots that the operation looks at
  have slot : ∀ t, t ∈ oi.looksAt ops → ∀ x y, (tr i).1[t]? = some x → a.tmps[t]? = some y → VR ρ x y := by
    intro t htl x y hx hy
    by_cases hex : ∃ j, j < i ∧ DstIs ops j t
    · obtain ⟨j, hj, oj, hoj, hd⟩ := hex
      rcases (slotsB_spec hslots hip (j := j) (by omega) (by omega) hoi hoj hd).2 htl with hw | hw
      · refine hnew t x y ⟨j, by omega, ⟨oj, hoj, hd⟩, ready_of_waits hr hw.2⟩ ?_ hy
        rw [← ht.new hslots (ops.size - i) i (by omega) t ⟨j, hj, oj, hoj, hd⟩]; exact hx
      · omega
    · refine hold t x y ?_ ?_ hy
      · rintro ⟨j, hj, ⟨oj, hoj, hd⟩, hl⟩
        by_cases hji : i = j
        · subst hji
          rw [hunf] at hl; cases hl
        · rcases (slotsB_spec hslots hip hj hji hoi hoj hd).2 htl with hw | hw
          · exact hex ⟨j, hw.1, oj, hoj, hd⟩
          · have := listed_of_waits hi.head hw.2 hl
            rw [hunf] at this; cases this
      · rw [← ht.old i (by omega) t hex]; exact hx
  obtain ⟨v, hv, hcase⟩ := ht.step i oi hoi
  -- what holds behind it
  have fin : ∀ v' w1 ρ1, VR ρ1 v v' → ρ.le ρ1 → MR E.P ρ1 (mK m tr ops.size (L.setIfInBounds i true)) w1 → Ext ρ0 m w0 ρ1 (mK m tr ops.size (L.setIfInBounds i true)) w1 → MR E.P ρ0 m w1 →
      (∀ q b, q < ops.size → (tr q).2.length ≤ b → b < (tr (q + 1)).2.length → (L.setIfInBounds i true).getD q false = false → ρ1 (m.length + b) = none) →
      KInv D E ops m tr ρ0 w0 (L.setIfInBounds i true) (a.put oi.dst v') w1 := by
    intro v' w1 ρ1 hvv hle hm1 hx1 hm01 hnone1
    have hsz1 : (a.put oi.dst v').tmps.size = a.tmps.size := by cases oi.dst <;> simp [Act.put]
    have hother : ∀ t, oi.dst ≠ some t → (a.put oi.dst v').tmps[t]? = a.tmps[t]? := by
      intro t ht9
      cases hd : oi.dst with
      | none => rfl
      | some d =>
        simp only [Act.put, Array.getElem?_setIfInBounds]
        rw [if_neg (fun e => ht9 (by rw [hd, e]))]
    refine ⟨hi.head.set hr hip, by rw [put_defers]; exact hi.defers, by rw [hsz1]; exact hi.size, ρ1, hm1, hx1, hm01, hnone1, ?_, ?_⟩
    · rintro t x y ⟨j, hj, ⟨oj, hoj, hd⟩, hl⟩ hx hy
      by_cases hji : i = j
      · subst hji
        rw [hoi] at hoj; cases hoj
        rw [← ht.new hslots (ops.size - (i + 1)) (i + 1) (by omega) t ⟨i, by omega, oi, hoi, hd⟩, hv, hd] at hx
        rw [hd] at hy
        have htl : t < (tr i).1.length := by
          have := (List.getElem?_eq_some_iff.1 hx).1
          rw [aput_length] at this; exact this
        rw [aput_same htl] at hx
        have ht2 : t < a.tmps.size := by rw [← hi.size, ← ht.length i (by omega)]; exact htl
        simp only [Act.put, Array.getElem?_setIfInBounds, ht2, if_true] at hy
        cases hx; cases hy
        exact hvv
      · have hne : oi.dst ≠ some t := (slotsB_spec hslots hip hj hji hoi hoj hd).1
        rw [hother t hne] at hy
        rw [getD_set_ne false hji] at hl
        exact (hnew t x y ⟨j, hj, ⟨oj, hoj, hd⟩, hl⟩ hx hy).mono hle
    · intro t x y hno hx hy
      have hne : oi.dst ≠ some t := fun hd => hno ⟨i, hip, ⟨oi, hoi, hd⟩, getD_set_self hLsz false⟩
      rw [hother t hne] at hy
      refine (hold t x y ?_ hx hy).mono hle
      rintro ⟨j, hj, hd, hl⟩
      refine hno ⟨j, hj, hd, ?_⟩
      by_cases hji : i = j
      · subst hji; exact getD_set_self hLsz false
      · rw [getD_set_ne false hji]; exact hl
  have hsize : (tr i).1.length = a.tmps.size := by rw [ht.length i (by omega)]; exact hi.size
  have hguard : ∀ b, agd ops (tr i).1 oi = some b → Region.wanted oi (yielded ops a.tmps) = b := by
    intro b hb
    refine agd_sound hsize (fun j want oj d hg hj hd x y hx hy => slot d ?_ x y hx hy) hb
    unfold Oper.looksAt
    rw [hg]
    apply List.mem_append_right
    simp [hj, hd]
  have nonef : ∀ q b, q < ops.size → (tr q).2.length ≤ b → b < (tr (q + 1)).2.length → (L.setIfInBounds i true).getD q false = false → ρ (m.length + b) = none := by
    intro q b hq h1 h2 hl
    refine hnone q b hq h1 h2 ?_
    rw [getD_put hLsz] at hl
    split at hl
    · cases hl
    · exact hl
  unfold wpOp
  simp only [hoi]
  rcases hcase with ⟨hg, rfl, hnb⟩ | ⟨hg, hok, hcase⟩
  · rw [hguard false hg]
    simp only [Bool.false_eq_true, if_false]
    have hpl := mK_same ht hip hnb hLsz
    exact hK _ _ (fin undef w ρ (vr_undef ρ) (Ren.le_refl _) (by rw [hpl]; exact hmr) (by rw [hpl]; exact hext) hm0 nonef)
  rw [hguard true hg]
  simp only [if_true]
  left
  have hev : ∀ x, x ∈ oi.op.operands.toList → VR ρ (ev (tr i).1 x) (a.eval x) := by
    intro x hx
    have hok1 : oi.op.operands.toList.all (okOperand E.P) = true := by
      have h := hok
      simp only [okOp, Bool.and_eq_true] at h
      exact h.1
    cases x with
    | tmp t =>
      have htl : t ∈ oi.looksAt ops := by
        unfold Oper.looksAt
        apply List.mem_append_left
        exact List.mem_filterMap.2 ⟨.tmp t, hx, rfl⟩
      simp only [ev, nth_eq, Act.eval]
      by_cases hlt : t < (tr i).1.length
      · have h1 : (tr i).1[t]? = some (tr i).1[t] := by simp [hlt]
        have hlt' : t < a.tmps.size := by rw [← hsize]; exact hlt
        have h2 : a.tmps[t]? = some a.tmps[t] := by simp [hlt']
        have := slot t htl _ _ h1 h2
        simpa [List.getD, h1, Array.getD, hlt'] using this
      · have h' : ¬ t < a.tmps.size := by rw [← hsize]; exact hlt
        rw [show (tr i).1.getD t undef = undef by simp [List.getD, List.getElem?_eq_none (Nat.le_of_not_lt hlt)]]
        simp only [Array.getD, h', dite_false]
        exact vr_undef ρ
    | const k => exact ev_vr (T := []) (a := { tmps := #[], defers := [] }) hmr ⟨rfl, fun i x y hx => by simp at hx⟩ (.const k) ((List.all_eq_true.1 hok1) _ hx)
    | global g => exact ev_vr (T := []) (a := { tmps := #[], defers := [] }) hmr ⟨rfl, fun i x y hx => by simp at hx⟩ (.global g) ((List.all_eq_true.1 hok1) _ hx)
    | func f => exact .lit rfl
  rcases hcase with ⟨hfl, hnb⟩ | ⟨hla, hnb, m1, hstep, hml⟩ | ⟨hbel, v0, m1, bs, hstep, hcoll, hnb, _⟩
  · obtain ⟨v', hrun, hvv⟩ := afloat_sound (w := w) hev hok hfl
    unfold Oper.wp
    rw [hrun]
    have hpl := mK_same ht hip hnb hLsz
    exact hK _ _ (fin v' w ρ hvv (Ren.le_refl _) (by rw [hpl]; exact hmr) (by rw [hpl]; exact hext) hm0 nonef)
  · -- all that make are done
    unfold lateB at hla
    simp only [List.all_eq_true, List.mem_range, Bool.or_eq_true, Bool.not_eq_true', Bool.and_eq_true, decide_eq_true_eq] at hla
    have hsz9 : ∀ j, isW E.P E.wr ops j = true → j < ops.size := by
      intro j hj
      unfold isW at hj
      split at hj
      · rename_i o ho; exact (Array.getElem?_eq_some_iff.1 ho).1
      · cases hj
    have hdone : ∀ j, isW E.P E.wr ops j = true → j < i ∧ L.getD j false = true := by
      intro j hj
      rcases hla j (hsz9 j hj) with h1 | ⟨h1, h2⟩
      · rw [hj] at h1; cases h1
      · exact ⟨h1, ready_of_chain hi.head hr 4 h2⟩
    have hmK := mK_all ht (L := L) fun j hj => (hdone j hj).2
    have hsame : ∀ d k, i ≤ k → k + d = ops.size → (tr k).2 = (tr ops.size).2 := by
      intro d
      induction d with
      | zero => intro k _ hk; rw [show k = ops.size by omega]
      | succ d ih =>
        intro k hik hk
        obtain ⟨bs, h1, h2⟩ := ht.grows (k := k) (by omega)
        have : bs = [] := by
          apply Classical.byContradiction
          intro hne
          have := (hdone k (h2 hne)).1
          omega
        rw [← ih (k + 1) (by omega) (by omega), h1, this, List.append_nil]
    have hnbi := hsame (ops.size - i) i (Nat.le_refl _) (by omega)
    rw [hnbi, ← hmK] at hstep
    refine astep_wp hs hnum hx9 (mr_sealed hmr) hev hok hstep fun v' w1 ρ1 hvv hm1 hx1 => hK _ _ ?_
    have hlen1 : m1.length = (mK m tr ops.size L).length := by rw [hml, hnbi, mK_length]
    have hle : ρ1.le ρ := by
      intro k x hk
      by_cases hlt : k < ((mK m tr ops.size L).map sealed).length
      · rw [hx1.same k hlt] at hk; exact hk
      · rw [hm1.dom k (by simp at hlt; omega)] at hk; cases hk
    have hbe := below_of_sealed hx1
    obtain ⟨hb1, hb2⟩ := mr_below hmr hbe
    obtain ⟨hb3, _⟩ := mr_below hm0 hbe
    have hpl := mK_same ht hip hnb hLsz
    exact fin v' w1 ρ (hvv.mono hle) (Ren.le_refl _) (by rw [hpl]; exact hb1) (by rw [hpl]; exact hext.trans hb2) hb3 nonef
  · have hsame : ∀ k, k < m.length → ρ k = ρ0 k := fun k hk => hext.same k hk
    have hev0 : ∀ x, x ∈ oi.op.operands.toList → VR ρ0 (ev (tr i).1 x) (a.eval x) := by
      intro x hx
      unfold opsBelow at hbel
      exact belowC_vr hsame 4 ((List.all_eq_true.1 hbel) x hx) (hev x hx)
    refine astep_wp hs hnum hx9 (mr_sealed hm0) hev0 hok hstep fun v' w1 ρ1 hvv hm1 hx1 => hK _ _ ?_
    obtain ⟨hfit, hdead, hset⟩ := mK_set ht hip hnb hLsz hunf
    have hlen1 : (tr (i + 1)).2.length = (tr i).2.length + bs.length := by rw [hnb]; simp
    obtain ⟨ρ2, h1, h2, h3, h4, h5⟩ := acollAt_sound (N := m.length + (tr i).2.length) hmr hext (by omega) (by simp) (by omega) hext.le (fun k e cs => sealed_ro k e cs) hm1 hx1 hvv hcoll hfit
      (fun j hj => ⟨hdead j hj, by rw [Nat.add_assoc]; exact hnone i _ hip (by omega) (by omega) hunf⟩)
    rw [hset] at h3 h4
    obtain ⟨hb3, _⟩ := mr_below hm0 (below_of_sealed hx1)
    refine fin v' w1 ρ2 h1 h2 h3 h4 hb3 fun q b hq hb1 hb2 hl => ?_
    have hqi : q ≠ i := by
      rintro rfl
      rw [getD_set_self hLsz false] at hl; cases hl
    rw [h5 _ (fun hin => hqi (ht.owner_unique hq hip ⟨hb1, hb2⟩ ⟨by omega, by omega⟩))]
    exact nonef q b hq hb1 hb2 hl
theorem mk_any {D : List Deferred} {E : Env} {self : Self} (hs : CallOK E.P (ainv E self)) (hnum : noNum E.P) (hx9 : XOK E) {ops : Array Oper} (hedge : edgesB ops = true) (hslots : slotsB ops = true)
    {m : Mem} {tr : Nat → List Value × List Blk} (ht : KTrace E self ops m tr) {ρ0 : Ren} {w0 : World} {Q : Exit → Act → World → Prop} (hQ : ∀ a w, KInv D E ops m tr ρ0 w0 (Array.replicate ops.size true) a w → Q .normal a w) :
    ∀ (f : Nat) (L : Array Bool) (a : Act) (w : World), KInv D E ops m tr ρ0 w0 L a w → (List.range ops.size).countP (fun i => !L.getD i true) = f → wpAny E.P .any ops Q f L a w
  | 0, L, a, w, hi, hc => by
    have hall : ∀ i, i < ops.size → L.getD i true = true := by
      intro i hip
      rw [List.countP_eq_zero] at hc
      have := hc i (List.mem_range.2 hip)
      simpa using this
    have hL : L = Array.replicate ops.size true := by
      have hsz := hi.head.size
      apply Array.ext
      · simp [hsz]
      · intro i h1 h2
        have h3 := hall i (by omega)
        simp [h1] at h3
        simp [h3]
    refine ⟨?_, hQ a w (hL ▸ hi)⟩
    apply List.eq_nil_iff_forall_not_mem.2
    intro i hr
    obtain ⟨hun, oi, hoi, _⟩ := mem_ready.1 hr
    rw [hall i (Array.getElem?_eq_some_iff.1 hoi).1] at hun
    cases hun
  | f + 1, L, a, w, hi, hc => by
    have hex : ∃ i, i < ops.size ∧ L.getD i true = false := by
      apply Classical.byContradiction
      intro hno
      have : (List.range ops.size).countP (fun i => !L.getD i true) = 0 := by
        rw [List.countP_eq_zero]
        intro i hi'
        have hip := List.mem_range.1 hi'
        have : L.getD i true ≠ false := fun e => hno ⟨i, hip, e⟩
        simpa using this
      omega
    have hleast : ∃ i, i < ops.size ∧ L.getD i true = false ∧ ∀ j, j < i → L.getD j true = true := by
      obtain ⟨i, hip, hif⟩ := hex
      induction i using Nat.strongRecOn with
      | _ i ih =>
        by_cases h1 : ∃ j, j < i ∧ L.getD j true = false
        · obtain ⟨j, hj, hjf⟩ := h1
          exact ih j hj (by omega) hjf
        · refine ⟨i, hip, hif, fun j hj => ?_⟩
          have : L.getD j true ≠ false := fun e => h1 ⟨j, hj, e⟩
          simpa using this
    obtain ⟨i0, hi0, hif0, hmin⟩ := hleast
    have hready : i0 ∈ Region.ready .any ops L := by
      have ho : ops[i0]? = some ops[i0] := by simp
      refine mem_ready.2 ⟨hif0, ops[i0], ho, fun e he hb => ?_⟩
      have h1 := (List.all_eq_true.1 hedge) i0 (List.mem_range.2 (by omega))
      rw [ho] at h1
      simp only at h1
      have h2 := (Array.all_eq_true'.1 h1) e he
      simp only [hb, Bool.not_true, Bool.false_or, decide_eq_true_eq] at h2
      have h3 := hmin e.on h2
      have hlt : e.on < L.size := by rw [hi.head.size]; omega
      simp [hlt] at h3 ⊢; exact h3
    refine ⟨fun hnil => (by rw [hnil] at hready; cases hready), fun i hr => ?_⟩
    refine mk_step hs hnum hx9 hslots ht L a w hi hr fun a1 w1 hi1 => ?_
    refine mk_any hs hnum hx9 hedge hslots ht hQ f _ a1 w1 hi1 ?_
    obtain ⟨hun, oi, hoi, _⟩ := mem_ready.1 hr
    have hip : i < ops.size := (Array.getElem?_eq_some_iff.1 hoi).1
    have hLsz : i < L.size := by rw [hi.head.size]; exact hip
    have := countP_set (p := fun j => !L.getD j true) (q := fun j => !(L.setIfInBounds i true).getD j true) ops.size i hip (by simp [hun]) (by simp [getD_set_self hLsz true]) (fun x hx => by rw [getD_set_ne true (fun e => hx e.symm)])
    omega
theorem amk0_sound {E : Env} {self : Self} (hs : CallOK E.P (ainv E self)) (hnum : noNum E.P) (hx9 : XOK E) (hmix : E.P.follows .mixedOrders = true) {ops : Array Oper} (hok : mkOkB ops = true) {T T1 : List Value} {m m1 : Mem}
    (h : amk0 E self ops T m = some (T1, m1)) (id : Nat) {D : List Deferred} (ρ : Ren) (w : World) (a : Act) (hd : a.defers = D) (hm : MR E.P ρ m w) (ht : TR ρ T a.tmps) :
    (Code.region id ops true).wp E.P (fun e a1 w1 => e = .normal ∧ Post D E.P ρ m w T1 m1 a1 w1) a w := by
  simp only [mkOkB, Bool.and_eq_true] at hok
  obtain ⟨_, hedge, hslots⟩ := hok
  unfold amk0 at h
  split at h
  · rename_i T2 nb hT2
    cases h
    obtain ⟨tr, h0, h1, hst⟩ := amkT_trace (E := E) (self := self) (ops := ops) (m := m) ops.toList 0 T [] T1 nb (by simp) hT2
    have hlen : ops.toList.length = ops.size := by simp
    rw [hlen] at h1
    have htr : KTrace E self ops m tr := ⟨fun i o ho => by
      have := hst i o (by simpa using ho)
      rw [Nat.zero_add] at this
      exact this, by rw [h0]⟩
    refine wp_region_any hmix ?_
    have hcnt : (List.range ops.size).countP (fun i => !(Array.replicate ops.size false).getD i true) = ops.size := by
      have : ∀ q, q ≤ ops.size → (List.range q).countP (fun i => !(Array.replicate ops.size false).getD i true) = q := by
        intro q
        induction q with
        | zero => intro _; rfl
        | succ q ih =>
          intro hq
          rw [List.range_succ, List.countP_append, ih (by omega)]
          have hlt : q < ops.size := by omega
          simp [hlt]
      exact this _ (Nat.le_refl _)
    refine mk_any hs hnum hx9 hedge hslots htr (D := D) (ρ0 := ρ) (w0 := { w with drawn := w.drawn + 1 }) (fun a2 w2 hi2 => ⟨rfl, ?fin⟩) ops.size (Array.replicate ops.size false) a { w with drawn := w.drawn + 1 } ?start hcnt
    case fin =>
      obtain ⟨ρ1, hmr, hext, _, hnone, hnew, hold⟩ := hi2.ex
      have hsz9 : ∀ j, isW E.P E.wr ops j = true → j < ops.size := by
        intro j hj
        unfold isW at hj
        split at hj
        · rename_i o ho; exact (Array.getElem?_eq_some_iff.1 ho).1
        · cases hj
      have hmL : mK m tr ops.size (Array.replicate ops.size true) = m ++ nb := by
        rw [mK_all htr fun j hj => by simp [hsz9 j hj], h1]
      rw [hmL] at hmr hext
      refine ⟨hi2.defers, ρ1, ⟨by have := htr.length _ (Nat.le_refl _); rw [h1] at this; rw [this]; exact hi2.size, fun t x y hx hy => ?_⟩, hmr, ((Ext.refl' w hm.dom).drawn (w.drawn + 1)).trans hext⟩
      have hx' : (tr ops.size).1[t]? = some x := by rw [h1]; exact hx
      by_cases hex : ∃ j, j < ops.size ∧ DstIs ops j t
      · obtain ⟨j, hj, hdj⟩ := hex
        exact hnew t x y ⟨j, hj, hdj, by simp [hj]⟩ hx' hy
      · refine hold t x y (fun ⟨j, hj, hdj, _⟩ => hex ⟨j, hj, hdj⟩) ?_ hy
        rw [← htr.old _ (Nat.le_refl _) t hex]; exact hx'
    case start =>
      have hdead : ∀ b ∈ (List.range (tr ops.size).2.length).map (kb tr ops.size (Array.replicate ops.size false)), b = .dead := by
        intro b hb
        obtain ⟨k, hk, rfl⟩ := List.mem_map.1 hb
        unfold kb
        split
        · simp only [getD_replicate_false]
          rfl
        · rfl
      have hnone : ∀ k, ρ (m.length + k) = none := fun k => hm.dom _ (by omega)
      refine ⟨⟨by simp, fun j oj _ hl => (by rw [getD_replicate_false] at hl; cases hl), fun t h8 h9 => (by omega)⟩, hd, by rw [h0]; exact ht.size, ρ, (hm.drawn _).deads hdead, ?_, hm.drawn _,
        fun i b _ _ _ _ => hnone b, fun t x y ⟨j, _, _, hl⟩ => (by rw [getD_replicate_false] at hl; cases hl), fun t x y _ hx hy => (by rw [h0] at hx; exact ht.at_ t x y hx hy)⟩
      refine ⟨Ren.le_refl _, fun _ _ => rfl, by rw [mK_length]; omega, fun k x hk hx' => by (rw [hm.dom k hk] at hx'; cases hx'), rfl, rfl, rfl, Nat.le_refl _, fun _ _ _ => rfl, fun k e cs x hk hx' => ?_⟩
      by_cases hlt : k < m.length
      · rw [mK_old hlt] at hk
        exact .inr ⟨k, e, cs, x, hk, hx', rfl⟩
      · rw [hm.dom k (by omega)] at hx'; cases hx'
  · cases h
end
end Go.Am
namespace Go.Am
noncomputable section
def belowP (p : Nat → Bool) : Nat → Value → Bool
  | _, .pointer (some a) => p a.block
  | _, .slice (some a) _ _ => p a.block
  | d + 1, .agg cs => cs.toList.all (belowP p d)
  | d + 1, .tuple cs => cs.toList.all (belowP p d)
  | d + 1, .func _ a b => a.toList.all (belowP p d) && b.toList.all (belowP p d)
  | _, v => lit2 v
theorem belowP_vr {p : Nat → Bool} {ρ ρ0 : Ren} (h : ∀ k, p k = true → ρ k = ρ0 k) : ∀ (d : Nat) {x y : Value}, belowP p d x = true → VR ρ x y → VR ρ0 x y := by
  intro d
  induction d with
  | zero =>
    intro x y hb hv
    unfold belowP at hb
    split at hb
    · obtain ⟨b, o, z, rfl, hz, rfl⟩ := vr_ptr_some hv
      rw [h b (by simpa using hb)] at hz
      exact .ptr hz
    · rename_i a l c
      cases hv with
      | lit hl => simp [lit2, lit1, lit0] at hl
      | slice hz hc => rw [h _ (by simpa using hb)] at hz; exact .slice hz hc
    · exfalso; omega
    · exfalso; omega
    · exfalso; omega
    · rw [hv.eq_of_lit2 hb]; exact .lit hb
  | succ d ih =>
    intro x y hb hv
    have each : ∀ {l l' : List Value}, l.all (belowP p d) = true → (∀ (i : Nat) (x y : Value), l[i]? = some x → l'[i]? = some y → VR ρ x y) → ∀ (i : Nat) (x y : Value), l[i]? = some x → l'[i]? = some y → VR ρ0 x y :=
      fun hl hx i x y h1 h2 => ih ((List.all_eq_true.1 hl) x (List.mem_of_getElem? h1)) (hx i x y h1 h2)
    unfold belowP at hb
    split at hb
    · obtain ⟨b, o, z, rfl, hz, rfl⟩ := vr_ptr_some hv
      rw [h b (by simpa using hb)] at hz
      exact .ptr hz
    · rename_i a l c
      cases hv with
      | lit hl => simp [lit2, lit1, lit0] at hl
      | slice hz hc => rw [h _ (by simpa using hb)] at hz; exact .slice hz hc
    · rename_i d' cs h0
      cases h0
      obtain ⟨l', rfl, hn, hx⟩ := vr_agg_inv (l := cs.toList) hv
      exact .agg hn (each hb hx)
    · rename_i d' cs h0
      cases h0
      obtain ⟨l', rfl, hn, hx⟩ := vr_tuple_inv (l := cs.toList) hv
      exact .tuple hn (each hb hx)
    · rename_i d' fn a b h0
      cases h0
      simp only [Bool.and_eq_true] at hb
      obtain ⟨a', b', rfl, hn, hx, hk, hy⟩ := vr_func_inv (a := a.toList) (b := b.toList) hv
      exact .func hn (each hb.1 hx) hk (each hb.2 hy)
    · rw [hv.eq_of_lit2 hb]; exact .lit hb
def pW (ops : Array Oper) (i n : Nat) (ow : List Nat) (k : Nat) : Bool := decide (k < n) || (match ow[k - n]? with
  | some j => chainB ops 4 i j
  | none => false)
def maskN (ops : Array Oper) (i : Nat) (nb : List Blk) (ow : List Nat) : List Blk := (List.zip nb ow).map fun q => if chainB ops 4 i q.2 then q.1 else .dead
def rowsP (p : Nat → Bool) (l : List Blk) : Bool := l.all fun b => match b with
  | .row _ _ cs => cs.all (belowP p 4)
  | .tab _ _ => false
  | .dead => true
def opsP (p : Nat → Bool) (T : List Value) (o : Oper) : Bool := o.op.operands.toList.all fun x => belowP p 4 (ev T x)
def amkUT (E : Env) (self : Self) (ops : Array Oper) (m : Mem) : List Oper → Nat → List Value → List Blk → List Nat → Option (List Value × List Blk)
  | [], _, T, nb, _ => some (T, nb)
  | o :: l, i, T, nb, ow => match agd ops T o with
    | some true => if okOp E.P o.op then match cls E.P E.wr o with
        | 0 => match afloat E.P T o with
          | some v => amkUT E self ops m l (i + 1) (aput T o.dst v) nb ow
          | none => none
        | c + 1 => if opsP (pW ops i m.length ow) T o && rowsP (pW ops i m.length ow) (maskN ops i nb ow) then match astep E self T ((m ++ maskN ops i nb ow).map sealed) o with
            | some (v, m1) => match acollAt (m.length + nb.length) (m.length + nb.length) v m1 with
              | some (v', bs) => if bs.isEmpty || isW E.P E.wr ops i then amkUT E self ops m l (i + 1) (aput T o.dst v') (nb ++ bs) (ow ++ List.replicate bs.length i) else none
              | none => none
            | none => none
          else none
      else none
    | some false => amkUT E self ops m l (i + 1) (aput T o.dst undef) nb ow
    | none => none
def amkU (E : Env) (self : Self) (ops : Array Oper) (T : List Value) (m : Mem) : Option (List Value × Mem) := match amkUT E self ops m ops.toList 0 T [] [] with
  | some (T1, nb) => some (T1, m ++ nb)
  | none => none
def UStp (E : Env) (self : Self) (ops : Array Oper) (m : Mem) (i : Nat) (o : Oper) (T : List Value) (nb : List Blk) (ow : List Nat) (T' : List Value) (nb' : List Blk) (ow' : List Nat) : Prop :=
  ∃ v, T' = aput T o.dst v ∧ (
    (agd ops T o = some false ∧ v = undef ∧ nb' = nb ∧ ow' = ow) ∨
    (agd ops T o = some true ∧ okOp E.P o.op = true ∧ ((afloat E.P T o = some v ∧ nb' = nb ∧ ow' = ow) ∨
      (opsP (pW ops i m.length ow) T o = true ∧ rowsP (pW ops i m.length ow) (maskN ops i nb ow) = true ∧ ∃ v0 m1 bs, astep E self T ((m ++ maskN ops i nb ow).map sealed) o = some (v0, m1) ∧ acollAt (m.length + nb.length) (m.length + nb.length) v0 m1 = some (v, bs) ∧ nb' = nb ++ bs ∧ ow' = ow ++ List.replicate bs.length i ∧ (bs ≠ [] → isW E.P E.wr ops i = true)))))
theorem amkUT_trace {E : Env} {self : Self} {ops : Array Oper} {m : Mem} : ∀ (l : List Oper) (i : Nat) (T : List Value) (nb : List Blk) (ow : List Nat) (T1 : List Value) (nb1 : List Blk), amkUT E self ops m l i T nb ow = some (T1, nb1) →
    ∃ (tr : Nat → List Value × List Blk) (os : Nat → List Nat), tr 0 = (T, nb) ∧ os 0 = ow ∧ tr l.length = (T1, nb1) ∧ ∀ j o, l[j]? = some o → UStp E self ops m (i + j) o (tr j).1 (tr j).2 (os j) (tr (j + 1)).1 (tr (j + 1)).2 (os (j + 1))
  | [], i, T, nb, ow, T1, nb1, h => by
    simp only [amkUT, Option.some.injEq, Prod.mk.injEq] at h
    obtain ⟨rfl, rfl⟩ := h
    exact ⟨fun _ => (T, nb), fun _ => ow, rfl, rfl, rfl, fun j o h => by simp at h⟩
  | o :: l, i, T, nb, ow, T1, nb1, h => by
    have key : ∀ T2 nb2 ow2, UStp E self ops m i o T nb ow T2 nb2 ow2 → amkUT E self ops m l (i + 1) T2 nb2 ow2 = some (T1, nb1) → ∃ (tr : Nat → List Value × List Blk) (os : Nat → List Nat), tr 0 = (T, nb) ∧ os 0 = ow ∧ tr (o :: l).length = (T1, nb1) ∧
        ∀ j o', (o :: l)[j]? = some o' → UStp E self ops m (i + j) o' (tr j).1 (tr j).2 (os j) (tr (j + 1)).1 (tr (j + 1)).2 (os (j + 1)) := by
      intro T2 nb2 ow2 hs h2
      obtain ⟨tr, os, t0, o0, t1, hst⟩ := amkUT_trace l (i + 1) T2 nb2 ow2 T1 nb1 h2
      refine ⟨fun j => match j with | 0 => (T, nb) | j + 1 => tr j, fun j => match j with | 0 => ow | j + 1 => os j, rfl, rfl, t1, fun j o' ho => ?_⟩
      cases j with
      | zero => simp at ho; subst ho; show UStp _ _ _ _ _ _ T nb ow (tr 0).1 (tr 0).2 (os 0); rw [t0, o0]; exact hs
      | succ j => simp at ho; have := hst j o' ho; rw [show i + 1 + j = i + (j + 1) by omega] at this; exact this
    unfold amkUT at h
    split at h
    · rename_i hg
      split at h
      · rename_i hok
        split at h
        · split at h
          · rename_i v hf
            exact key _ _ _ ⟨v, rfl, .inr ⟨hg, hok, .inl ⟨hf, rfl, rfl⟩⟩⟩ h
          · cases h
        · split at h
          · rename_i hb
            simp only [Bool.and_eq_true] at hb
            split at h
            · rename_i v m1 hst
              split at h
              · rename_i v' bs hc
                split at h
                · rename_i hw
                  refine key _ _ _ ⟨v', rfl, .inr ⟨hg, hok, .inr ⟨hb.1, hb.2, v, m1, bs, hst, hc, rfl, rfl, fun hne => ?_⟩⟩⟩ h
                  simp only [Bool.or_eq_true, List.isEmpty_iff] at hw
                  rcases hw with hw | hw
                  · exact absurd hw hne
                  · exact hw
                · cases h
              · cases h
            · cases h
          · cases h
      · cases h
    · rename_i hg
      exact key _ _ _ ⟨undef, rfl, .inl ⟨hg, rfl, rfl, rfl⟩⟩ h
    · cases h
theorem mr_mask {P : Program} {ρ ρ0 : Ren} {M m mk : Mem} {w : World} {p : Nat → Bool} (hm : MR P ρ M w) (hm0 : MR P ρ0 m w) (h0 : ∀ k, k < m.length → ρ k = ρ0 k) (hp0 : ∀ k, k < m.length → p k = true)
    (hrow : ∀ (b : Nat) (ro : Bool) (e : TypeId) (cs : List Value), mk[b]? = some (.row ro e cs) → M[m.length + b]? = some (.row ro e cs) ∧ p (m.length + b) = true ∧ cs.all (belowP p 4) = true) (htab : ∀ (b : Nat) (e : TypeId) (cs : List Value), mk[b]? ≠ some (.tab e cs)) (hdom : ∀ k, m.length + mk.length ≤ k → p k = false) :
    MR P (fun k => if p k then ρ k else none) ((m ++ mk).map sealed) w := by
  have hle : ρ0.le (fun k => if p k then ρ k else none) := by
    intro k x hx
    have hk : k < m.length := by
      by_cases hk : k < m.length
      · exact hk
      · rw [hm0.dom k (by omega)] at hx; cases hx
    simp only [hp0 k hk, if_true, h0 k hk]
    exact hx
  refine ⟨fun k hk => ?_, fun k x hx => ?_, fun g hg => ?_, fun k ro e cs hk => ?_, fun k e cs k' ro' e' cs' x x' hk => absurd hk (sealed_ro k e cs), fun k e cs hk => ?_⟩
  · simp only [List.length_map, List.length_append] at hk
    simp only [hdom k hk, Bool.false_eq_true, if_false]
  · split at hx
    · exact hm.bnd k x hx
    · cases hx
  · obtain ⟨x, h1, h2⟩ := hm0.glob g hg
    exact ⟨x, hle g x h1, h2⟩
  · rw [look_sealed] at hk
    obtain ⟨⟨ro', e', cs'⟩, hk1, hk2⟩ := Option.map_eq_some_iff.1 hk
    simp only [Prod.mk.injEq] at hk2
    obtain ⟨rfl, rfl, rfl⟩ := hk2
    by_cases hkm : k < m.length
    · have hl : look m k = some (ro', e', cs') := by
        unfold look at hk1 ⊢
        rw [List.getElem?_append_left hkm] at hk1
        exact hk1
      obtain ⟨x, c, fr, g1, g2, g3, g4, g5, _, g7⟩ := hm0.row k ro' e' cs' hl
      refine ⟨x, c, fr, hle k x g1, g2, g3, g4, fun i u hu => ?_, fun hh => (by cases hh), g7⟩
      obtain ⟨v, h1, h2⟩ := g5 i u hu
      exact ⟨v, h1, h2.mono hle⟩
    · obtain ⟨b, rfl⟩ : ∃ b, k = m.length + b := ⟨k - m.length, by omega⟩
      have hb : ∃ ro'', mk[b]? = some (.row ro'' e' cs') := by
        unfold look at hk1
        rw [List.getElem?_append_right (by omega), Nat.add_sub_cancel_left] at hk1
        cases hmk : mk[b]? with
        | none => rw [hmk] at hk1; cases hk1
        | some bl =>
          rw [hmk] at hk1
          cases bl with
          | dead => simp [Blk.cells?] at hk1
          | row r1 e1 c1 => simp only [Blk.cells?, Option.some.injEq, Prod.mk.injEq] at hk1; obtain ⟨_, rfl, rfl⟩ := hk1; exact ⟨r1, rfl⟩
          | tab e1 c1 => exact absurd hmk (htab b e1 c1)
      obtain ⟨ro'', hb⟩ := hb
      obtain ⟨hM, hp, hcs⟩ := hrow b ro'' e' cs' hb
      have hl : look M (m.length + b) = some (ro'', e', cs') := by
        unfold look
        rw [hM]
        rfl
      obtain ⟨x, c, fr, g1, g2, g3, g4, g5, _, g7⟩ := hm.row _ ro'' e' cs' hl
      refine ⟨x, c, fr, by simp only [hp, if_true]; exact g1, g2, g3, g4, fun i u hu => ?_, fun hh => (by cases hh), g7⟩
      obtain ⟨v, h1, h2⟩ := g5 i u hu
      exact ⟨v, h1, belowP_vr (p := p) (fun k hk => by simp only [hk, if_true]) 4 ((List.all_eq_true.1 hcs) u (List.mem_of_getElem? hu)) h2⟩
  · rw [List.getElem?_map] at hk
    by_cases hkm : k < m.length
    · rw [List.getElem?_append_left hkm] at hk
      obtain ⟨bl, h1, h2⟩ := Option.map_eq_some_iff.1 hk
      cases bl with
      | dead => simp [sealed] at h2
      | row _ _ _ => simp [sealed] at h2
      | tab e1 c1 => simp only [sealed, Blk.tab.injEq] at h2; obtain ⟨rfl, rfl⟩ := h2; exact hm0.tab k _ _ h1
    · rw [List.getElem?_append_right (by omega)] at hk
      obtain ⟨bl, h1, h2⟩ := Option.map_eq_some_iff.1 hk
      cases bl with
      | dead => simp [sealed] at h2
      | row _ _ _ => simp [sealed] at h2
      | tab e1 c1 => exact absurd h1 (htab _ _ _)
structure UTrace (E : Env) (sf : Self) (ops : Array Oper) (m : Mem) (tr : Nat → List Value × List Blk) (ow : Nat → List Nat) : Prop where
  step : ∀ (i : Nat) (o : Oper), ops[i]? = some o → UStp E sf ops m i o (tr i).1 (tr i).2 (ow i) (tr (i + 1)).1 (tr (i + 1)).2 (ow (i + 1))
  zero : (tr 0).2 = []
  ozero : ow 0 = []
namespace UTrace
variable {E : Env} {self : Self} {ops : Array Oper} {m : Mem} {tr : Nat → List Value × List Blk} {ow : Nat → List Nat}
theorem length (h : UTrace E self ops m tr ow) : ∀ k, k ≤ ops.size → (tr k).1.length = (tr 0).1.length := by
  intro k
  induction k with
  | zero => intro _; rfl
  | succ k ih =>
    intro hk
    obtain ⟨v, hv, _⟩ := h.step k ops[k] (by simp)
    rw [hv, aput_length, ih (by omega)]
theorem old (h : UTrace E self ops m tr ow) : ∀ k, k ≤ ops.size → ∀ t : Nat, (¬ ∃ j, j < k ∧ DstIs ops j t) → (tr k).1[t]? = (tr 0).1[t]? := by
  intro k
  induction k with
  | zero => intro _ t _; rfl
  | succ k ih =>
    intro hk t hno
    obtain ⟨v, hv, _⟩ := h.step k ops[k] (by simp)
    rw [hv, aput_other, ih (by omega) t fun ⟨j, hj, hd⟩ => hno ⟨j, by omega, hd⟩]
    intro hd
    exact hno ⟨k, by omega, ops[k], by simp, hd⟩
theorem new (h : UTrace E self ops m tr ow) (hs : slotsB ops = true) : ∀ d k, k + d = ops.size → ∀ t : Nat, (∃ j, j < k ∧ DstIs ops j t) → (tr k).1[t]? = (tr ops.size).1[t]? := by
  intro d
  induction d with
  | zero => intro k hk t _; rw [show k = ops.size by omega]
  | succ d ih =>
    intro k hk t hex
    rw [← ih (k + 1) (by omega) t (by obtain ⟨j, hj, hd⟩ := hex; exact ⟨j, by omega, hd⟩)]
    obtain ⟨v, hv, _⟩ := h.step k ops[k] (by simp)
    rw [hv, aput_other]
    intro hd
    obtain ⟨j, hj, oj, hoj, hdj⟩ := hex
    exact (slotsB_spec hs (i := k) (j := j) (by omega) (by omega) (by omega) (by simp) hoj hdj).1 hd
theorem grows (h : UTrace E self ops m tr ow) {k : Nat} (hk : k < ops.size) : ∃ bs, (tr (k + 1)).2 = (tr k).2 ++ bs ∧ (bs ≠ [] → isW E.P E.wr ops k = true) := by
  obtain ⟨v, _, h1 | ⟨_, _, h1 | h1⟩⟩ := h.step k ops[k] (by simp)
  · exact ⟨[], by simp [h1.2.2.1], fun h => absurd rfl h⟩
  · exact ⟨[], by simp [h1.2.1], fun h => absurd rfl h⟩
  · obtain ⟨_, _, _, _, bs, _, _, h2, _, h3⟩ := h1
    exact ⟨bs, h2, h3⟩
theorem owns (h : UTrace E self ops m tr ow) : ∀ k, k ≤ ops.size → (ow k).length = (tr k).2.length ∧ ∀ b j, (ow k)[b]? = some j → j < k ∧ (tr j).2.length ≤ b ∧ b < (tr (j + 1)).2.length := by
  intro k
  induction k with
  | zero => intro _; rw [h.ozero, h.zero]; exact ⟨rfl, fun b j hb => by simp at hb⟩
  | succ k ih =>
    intro hk
    obtain ⟨ih1, ih2⟩ := ih (by omega)
    have same : (tr (k + 1)).2 = (tr k).2 → ow (k + 1) = ow k → (ow (k + 1)).length = (tr (k + 1)).2.length ∧ ∀ b j, (ow (k + 1))[b]? = some j → j < k + 1 ∧ (tr j).2.length ≤ b ∧ b < (tr (j + 1)).2.length := by
      intro e1 e2
      rw [e1, e2]
      exact ⟨ih1, fun b j hb => by obtain ⟨h1, h2⟩ := ih2 b j hb; exact ⟨by omega, h2⟩⟩
    obtain ⟨v, _, h1 | ⟨_, _, h1 | h1⟩⟩ := h.step k ops[k] (by simp)
    · exact same h1.2.2.1 h1.2.2.2
    · exact same h1.2.1 h1.2.2
    · obtain ⟨_, _, _, _, bs, _, _, h2, h3, _⟩ := h1
      refine ⟨by rw [h2, h3]; simp [ih1], fun b j hb => ?_⟩
      rw [h3] at hb
      by_cases hlt : b < (ow k).length
      · rw [List.getElem?_append_left hlt] at hb
        obtain ⟨g1, g2⟩ := ih2 b j hb
        exact ⟨by omega, g2⟩
      · rw [List.getElem?_append_right (by omega), List.getElem?_replicate] at hb
        split at hb
        · cases hb
          refine ⟨by omega, by omega, ?_⟩
          rw [h2, List.length_append]
          omega
        · cases hb
theorem prefix_ (h : UTrace E self ops m tr ow) : ∀ d k, k + d ≤ ops.size → ∃ bs, (tr (k + d)).2 = (tr k).2 ++ bs := by
  intro d
  induction d with
  | zero => intro k _; exact ⟨[], by simp⟩
  | succ d ih =>
    intro k hk
    obtain ⟨bs, h1⟩ := ih k (by omega)
    obtain ⟨bs2, h2, _⟩ := h.grows (k := k + d) (by omega)
    exact ⟨bs ++ bs2, by rw [show k + (d + 1) = k + d + 1 by omega, h2, h1, List.append_assoc]⟩
theorem mono (h : UTrace E self ops m tr ow) {i j : Nat} (hij : i ≤ j) (hj : j ≤ ops.size) : (tr i).2.length ≤ (tr j).2.length := by
  obtain ⟨bs, h1⟩ := h.prefix_ (j - i) i (by omega)
  rw [show i + (j - i) = j by omega] at h1
  rw [h1]; simp
theorem owner (h : UTrace E self ops m tr ow) {b : Nat} : ∀ k, k ≤ ops.size → b < (tr k).2.length → ∃ i, i < k ∧ (tr i).2.length ≤ b ∧ b < (tr (i + 1)).2.length := by
  intro k
  induction k with
  | zero => intro _ hb; rw [h.zero] at hb; simp at hb
  | succ k ih =>
    intro hk hb
    by_cases hlt : b < (tr k).2.length
    · obtain ⟨i, hi, h1⟩ := ih (by omega) hlt
      exact ⟨i, by omega, h1⟩
    · exact ⟨k, by omega, by omega, hb⟩
theorem owner_unique (h : UTrace E self ops m tr ow) {b i j : Nat} (hi : i < ops.size) (hj : j < ops.size) (h1 : (tr i).2.length ≤ b ∧ b < (tr (i + 1)).2.length) (h2 : (tr j).2.length ≤ b ∧ b < (tr (j + 1)).2.length) : i = j := by
  rcases Nat.lt_trichotomy i j with hlt | rfl | hlt
  · have := h.mono (i := i + 1) (j := j) (by omega) (by omega); omega
  · rfl
  · have := h.mono (i := j + 1) (j := i) (by omega) (by omega); omega
end UTrace
section
variable {E : Env} {self : Self} {ops : Array Oper} {m : Mem} {tr : Nat → List Value × List Blk} {ow : Nat → List Nat}
theorem ukb_owner (h : UTrace E self ops m tr ow) {i b : Nat} (hi : i < ops.size) (hb : (tr i).2.length ≤ b ∧ b < (tr (i + 1)).2.length) (L : Array Bool) : kb tr ops.size L b = if L.getD i false then (tr ops.size).2.getD b .dead else .dead := by
  unfold kb
  have : (List.range ops.size).find? (fun i => decide ((tr i).2.length ≤ b ∧ b < (tr (i + 1)).2.length)) = some i := by
    cases hf : (List.range ops.size).find? (fun i => decide ((tr i).2.length ≤ b ∧ b < (tr (i + 1)).2.length)) with
    | none =>
      rw [List.find?_eq_none] at hf
      have := hf i (List.mem_range.2 hi)
      simp [hb.1, hb.2] at this
    | some j =>
      have h1 := List.find?_some hf
      have h2 := List.mem_range.1 (List.mem_of_find?_eq_some hf)
      rw [h.owner_unique hi h2 hb (by simpa using h1)]
  rw [this]
theorem umK_same (h : UTrace E self ops m tr ow) {i : Nat} (hi : i < ops.size) (hs : (tr (i + 1)).2 = (tr i).2) {L : Array Bool} (hL : i < L.size) : mK m tr ops.size (L.setIfInBounds i true) = mK m tr ops.size L := by
  unfold mK
  congr 1
  refine List.map_congr_left fun b hb => ?_
  obtain ⟨j, hj, h1⟩ := h.owner ops.size (Nat.le_refl _) (List.mem_range.1 hb)
  rw [ukb_owner h hj h1, ukb_owner h hj h1, getD_put hL]
  have hji : j ≠ i := by
    rintro rfl
    rw [hs] at h1
    omega
  rw [if_neg hji]
theorem umK_set (h : UTrace E self ops m tr ow) {i : Nat} (hi : i < ops.size) {bs : List Blk} (hs : (tr (i + 1)).2 = (tr i).2 ++ bs) {L : Array Bool} (hL : i < L.size) (hun : L.getD i false = false) :
    m.length + (tr i).2.length + bs.length ≤ (mK m tr ops.size L).length ∧ (∀ j, j < bs.length → (mK m tr ops.size L)[m.length + (tr i).2.length + j]? = some .dead) ∧
    setAll (mK m tr ops.size L) (m.length + (tr i).2.length) bs = mK m tr ops.size (L.setIfInBounds i true) := by
  have hle : (tr (i + 1)).2.length ≤ (tr ops.size).2.length := h.mono (by omega) (Nat.le_refl _)
  have hlen1 : (tr (i + 1)).2.length = (tr i).2.length + bs.length := by rw [hs]; simp
  have hfit : m.length + (tr i).2.length + bs.length ≤ (mK m tr ops.size L).length := by rw [mK_length]; omega
  have hown : ∀ j, j < bs.length → (tr i).2.length ≤ (tr i).2.length + j ∧ (tr i).2.length + j < (tr (i + 1)).2.length := fun j hj => ⟨by omega, by omega⟩
  refine ⟨hfit, fun j hj => ?_, ?_⟩
  · rw [Nat.add_assoc, mK_new (by omega), ukb_owner h hi (hown j hj), hun]
    simp
  · apply List.ext_getElem?
    intro k
    rw [setAll_get hfit]
    by_cases hk : k < m.length
    · rw [if_neg (by omega), mK_old hk, mK_old hk]
    · obtain ⟨b, rfl⟩ : ∃ b, k = m.length + b := ⟨k - m.length, by omega⟩
      by_cases hb : b < (tr ops.size).2.length
      · rw [mK_new hb, mK_new hb]
        by_cases hin : m.length + (tr i).2.length ≤ m.length + b ∧ m.length + b < m.length + (tr i).2.length + bs.length
        · rw [if_pos hin]
          have ho : (tr i).2.length ≤ b ∧ b < (tr (i + 1)).2.length := ⟨by omega, by omega⟩
          rw [ukb_owner h hi ho, getD_put hL, if_pos rfl]
          simp only [if_true]
          obtain ⟨bs2, h2⟩ := h.prefix_ (ops.size - (i + 1)) (i + 1) (by omega)
          rw [show i + 1 + (ops.size - (i + 1)) = ops.size by omega] at h2
          rw [h2, hs, List.getD_eq_getElem?_getD, List.append_assoc, List.getElem?_append_right (by omega), List.getElem?_append_left (by omega)]
          rw [show m.length + b - (m.length + (tr i).2.length) = b - (tr i).2.length by omega]
          have hlt : b - (tr i).2.length < bs.length := by omega
          simp [hlt]
        · rw [if_neg hin]
          obtain ⟨j, hj, h1⟩ := h.owner ops.size (Nat.le_refl _) hb
          rw [ukb_owner h hj h1, ukb_owner h hj h1, getD_put hL]
          have hji : j ≠ i := by
            rintro rfl
            omega
          rw [if_neg hji]
      · rw [if_neg (by omega), List.getElem?_eq_none (by rw [mK_length]; omega), List.getElem?_eq_none (by rw [mK_length]; omega)]
theorem umK_all (h : UTrace E self ops m tr ow) {L : Array Bool} (hL : ∀ j, isW E.P E.wr ops j = true → L.getD j false = true) : mK m tr ops.size L = m ++ (tr ops.size).2 := by
  unfold mK
  congr 1
  apply List.ext_getElem?
  intro b
  rw [List.getElem?_map]
  by_cases hb : b < (tr ops.size).2.length
  · rw [List.getElem?_range hb]
    obtain ⟨j, hj, h1⟩ := h.owner ops.size (Nat.le_refl _) hb
    obtain ⟨bs, h2, h3⟩ := h.grows hj
    have hne : bs ≠ [] := by
      rintro rfl
      simp at h2
      rw [h2] at h1
      omega
    simp only [Option.map_some, ukb_owner h hj h1, hL j (h3 hne), if_true]
    simp [hb]
  · rw [List.getElem?_eq_none (by simp; omega), List.getElem?_eq_none (by omega)]
    rfl
end
theorem u_step {D : List Deferred} {E : Env} {self : Self} (hs : CallOK E.P (ainv E self)) (hnum : noNum E.P) (hx9 : XOK E) {ops : Array Oper} (hslots : slotsB ops = true)
    {m : Mem} {tr : Nat → List Value × List Blk} {ow : Nat → List Nat} (ht : UTrace E self ops m tr ow) {ρ0 : Ren} {w0 : World}
    (L : Array Bool) (a : Act) (w : World) (hi : KInv D E ops m tr ρ0 w0 L a w) {i : Nat} (hr : i ∈ Region.ready .any ops L) {K : Act → World → Prop} {Q : Exit → Act → World → Prop}
    (hK : ∀ a1 w1, KInv D E ops m tr ρ0 w0 (L.setIfInBounds i true) a1 w1 → K a1 w1) : wpOp E.P ops Q i K a w := by
  obtain ⟨hun, oi, hoi, hall⟩ := mem_ready.1 hr
  have hip : i < ops.size := (Array.getElem?_eq_some_iff.1 hoi).1
  have hunf := getD_both hun
  have hLsz : i < L.size := by rw [hi.head.size]; exact hip
  obtain ⟨ρ, hmr, hext, hm0, hnone, hnew, hold⟩ := hi.ex
  -- the slots that the operation looks at
  have slot : ∀ t, t ∈ oi.looksAt ops → ∀ x y, (tr i).1[t]? = some x → a.tmps[t]? = some y → VR ρ x y := by
    intro t htl x y hx hy
    by_cases hex : ∃ j, j < i ∧ DstIs ops j t
    · obtain ⟨j, hj, oj, hoj, hd⟩ := hex
      rcases (slotsB_spec hslots hip (j := j) (by omega) (by omega) hoi hoj hd).2 htl with hw | hw
      · refine hnew t x y ⟨j, by omega, ⟨oj, hoj, hd⟩, ready_of_waits hr hw.2⟩ ?_ hy
        rw [← ht.new hslots (ops.size - i) i (by omega) t ⟨j, hj, oj, hoj, hd⟩]; exact hx
      · omega
    · refine hold t x y ?_ ?_ hy
      · rintro ⟨j, hj, ⟨oj, hoj, hd⟩, hl⟩
        by_cases hji : i = j
        · subst hji
          rw [hunf] at hl; cases hl
        · rcases (slotsB_spec hslots hip hj hji hoi hoj hd).2 htl with hw | hw
          · exact hex ⟨j, hw.1, oj, hoj, hd⟩
          · have := listed_of_waits hi.head hw.2 hl
            rw [hunf] at this; cases this
      · rw [← ht.old i (by omega) t hex]; exact hx
  obtain ⟨v, hv, hcase⟩ := ht.step i oi hoi
  -- what holds behind it
  have fin : ∀ v' w1 ρ1, VR ρ1 v v' → ρ.le ρ1 → MR E.P ρ1 (mK m tr ops.size (L.setIfInBounds i true)) w1 → Ext ρ0 m w0 ρ1 (mK m tr ops.size (L.setIfInBounds i true)) w1 → MR E.P ρ0 m w1 →
      (∀ q b, q < ops.size → (tr q).2.length ≤ b → b < (tr (q + 1)).2.length → (L.setIfInBounds i true).getD q false = false → ρ1 (m.length + b) = none) →
      KInv D E ops m tr ρ0 w0 (L.setIfInBounds i true) (a.put oi.dst v') w1 := by
    intro v' w1 ρ1 hvv hle hm1 hx1 hm01 hnone1
    have hsz1 : (a.put oi.dst v').tmps.size = a.tmps.size := by cases oi.dst <;> simp [Act.put]
    have hother : ∀ t, oi.dst ≠ some t → (a.put oi.dst v').tmps[t]? = a.tmps[t]? := by
      intro t ht9
      cases hd : oi.dst with
      | none => rfl
      | some d =>
        simp only [Act.put, Array.getElem?_setIfInBounds]
        rw [if_neg (fun e => ht9 (by rw [hd, e]))]
    refine ⟨hi.head.set hr hip, by rw [put_defers]; exact hi.defers, by rw [hsz1]; exact hi.size, ρ1, hm1, hx1, hm01, hnone1, ?_, ?_⟩
    · rintro t x y ⟨j, hj, ⟨oj, hoj, hd⟩, hl⟩ hx hy
      by_cases hji : i = j
      · subst hji
        rw [hoi] at hoj; cases hoj
        rw [← ht.new hslots (ops.size - (i + 1)) (i + 1) (by omega) t ⟨i, by omega, oi, hoi, hd⟩, hv, hd] at hx
        rw [hd] at hy
        have htl : t < (tr i).1.length := by
          have := (List.getElem?_eq_some_iff.1 hx).1
          rw [aput_length] at this; exact this
        rw [aput_same htl] at hx
        have ht2 : t < a.tmps.size := by rw [← hi.size, ← ht.length i (by omega)]; exact htl
        simp only [Act.put, Array.getElem?_setIfInBounds, ht2, if_true] at hy
        cases hx; cases hy
        exact hvv
      · have hne : oi.dst ≠ some t := (slotsB_spec hslots hip hj hji hoi hoj hd).1
        rw [hother t hne] at hy
        rw [getD_set_ne false hji] at hl
        exact (hnew t x y ⟨j, hj, ⟨oj, hoj, hd⟩, hl⟩ hx hy).mono hle
    · intro t x y hno hx hy
      have hne : oi.dst ≠ some t := fun hd => hno ⟨i, hip, ⟨oi, hoi, hd⟩, getD_set_self hLsz false⟩
      rw [hother t hne] at hy
      refine (hold t x y ?_ hx hy).mono hle
      rintro ⟨j, hj, hd, hl⟩
      refine hno ⟨j, hj, hd, ?_⟩
      by_cases hji : i = j
      · subst hji; exact getD_set_self hLsz false
      · rw [getD_set_ne false hji]; exact hl
  have hsize : (tr i).1.length = a.tmps.size := by rw [ht.length i (by omega)]; exact hi.size
  have hguard : ∀ b, agd ops (tr i).1 oi = some b → Region.wanted oi (yielded ops a.tmps) = b := by
    intro b hb
    refine agd_sound hsize (fun j want oj d hg hj hd x y hx hy => slot d ?_ x y hx hy) hb
    unfold Oper.looksAt
    rw [hg]
    apply List.mem_append_right
    simp [hj, hd]
  have nonef : ∀ q b, q < ops.size → (tr q).2.length ≤ b → b < (tr (q + 1)).2.length → (L.setIfInBounds i true).getD q false = false → ρ (m.length + b) = none := by
    intro q b hq h1 h2 hl
    refine hnone q b hq h1 h2 ?_
    rw [getD_put hLsz] at hl
    split at hl
    · cases hl
    · exact hl
  unfold wpOp
  simp only [hoi]
  rcases hcase with ⟨hg, rfl, hnb, _⟩ | ⟨hg, hok, hcase⟩
  · rw [hguard false hg]
    simp only [Bool.false_eq_true, if_false]
    have hpl := umK_same ht hip hnb hLsz
    exact hK _ _ (fin undef w ρ (vr_undef ρ) (Ren.le_refl _) (by rw [hpl]; exact hmr) (by rw [hpl]; exact hext) hm0 nonef)
  rw [hguard true hg]
  simp only [if_true]
  left
  have hev : ∀ x, x ∈ oi.op.operands.toList → VR ρ (ev (tr i).1 x) (a.eval x) := by
    intro x hx
    have hok1 : oi.op.operands.toList.all (okOperand E.P) = true := by
      have h := hok
      simp only [okOp, Bool.and_eq_true] at h
      exact h.1
    cases x with
    | tmp t =>
      have htl : t ∈ oi.looksAt ops := by
        unfold Oper.looksAt
        apply List.mem_append_left
        exact List.mem_filterMap.2 ⟨.tmp t, hx, rfl⟩
      simp only [ev, nth_eq, Act.eval]
      by_cases hlt : t < (tr i).1.length
      · have h1 : (tr i).1[t]? = some (tr i).1[t] := by simp [hlt]
        have hlt' : t < a.tmps.size := by rw [← hsize]; exact hlt
        have h2 : a.tmps[t]? = some a.tmps[t] := by simp [hlt']
        have := slot t htl _ _ h1 h2
        simpa [List.getD, h1, Array.getD, hlt'] using this
      · have h' : ¬ t < a.tmps.size := by rw [← hsize]; exact hlt
        rw [show (tr i).1.getD t undef = undef by simp [List.getD, List.getElem?_eq_none (Nat.le_of_not_lt hlt)]]
        simp only [Array.getD, h', dite_false]
        exact vr_undef ρ
    | const k => exact ev_vr (T := []) (a := { tmps := #[], defers := [] }) hmr ⟨rfl, fun i x y hx => by simp at hx⟩ (.const k) ((List.all_eq_true.1 hok1) _ hx)
    | global g => exact ev_vr (T := []) (a := { tmps := #[], defers := [] }) hmr ⟨rfl, fun i x y hx => by simp at hx⟩ (.global g) ((List.all_eq_true.1 hok1) _ hx)
    | func f => exact .lit rfl
  rcases hcase with ⟨hfl, hnb, _⟩ | ⟨hops, hrows, v0, m1, bs, hstep, hcoll, hnb, _, _⟩
  · obtain ⟨v', hrun, hvv⟩ := afloat_sound (w := w) hev hok hfl
    unfold Oper.wp
    rw [hrun]
    have hpl := umK_same ht hip hnb hLsz
    exact hK _ _ (fin v' w ρ hvv (Ren.le_refl _) (by rw [hpl]; exact hmr) (by rw [hpl]; exact hext) hm0 nonef)
  · obtain ⟨hol, hoo⟩ := ht.owns i (by omega)
    have hsame : ∀ k, k < m.length → ρ k = ρ0 k := fun k hk => hext.same k hk
    have hmlen : (maskN ops i (tr i).2 (ow i)).length = (tr i).2.length := by simp [maskN, hol]
    -- a row that it waits for lies there
    have hmrow : ∀ (b : Nat) (bl : Blk), (maskN ops i (tr i).2 (ow i))[b]? = some bl → bl ≠ .dead → (mK m tr ops.size L)[m.length + b]? = some bl ∧ pW ops i m.length (ow i) (m.length + b) = true := by
      intro b bl hb hne
      unfold maskN at hb
      rw [List.getElem?_map] at hb
      obtain ⟨⟨b1, j⟩, h1, h2⟩ := Option.map_eq_some_iff.1 hb
      rw [List.getElem?_zip_eq_some] at h1
      simp only at h1 h2
      split at h2
      · rename_i hch
        subst h2
        obtain ⟨g1, g2, g3⟩ := hoo b j h1.2
        have hdone := ready_of_chain hi.head hr 4 hch
        have hblt : b < (tr i).2.length := (List.getElem?_eq_some_iff.1 h1.1).1
        have hle := ht.mono (i := i) (j := ops.size) (by omega) (Nat.le_refl _)
        refine ⟨?_, ?_⟩
        · rw [mK_new (by omega), ukb_owner ht (by omega) ⟨g2, g3⟩, hdone]
          simp only [if_true]
          obtain ⟨bs2, h3⟩ := ht.prefix_ (ops.size - i) i (by omega)
          rw [show i + (ops.size - i) = ops.size by omega] at h3
          rw [h3, List.getD_eq_getElem?_getD, List.getElem?_append_left hblt, h1.1]
          rfl
        · unfold pW
          rw [Nat.add_sub_cancel_left, h1.2]
          simp [hch]
      · exact absurd h2.symm hne
    have hp0 : ∀ k, k < m.length → pW ops i m.length (ow i) k = true := fun k hk => by unfold pW; simp [hk]
    have hmi := mr_mask (p := pW ops i m.length (ow i)) (mk := maskN ops i (tr i).2 (ow i)) hmr hm0 hsame hp0 (fun b ro e cs hb => by
        obtain ⟨h1, h2⟩ := hmrow b _ hb (by simp)
        refine ⟨h1, h2, ?_⟩
        exact (List.all_eq_true.1 hrows) _ (List.mem_of_getElem? hb)) (fun b e cs hb => by
        have := (List.all_eq_true.1 hrows) _ (List.mem_of_getElem? hb)
        simp at this) (fun k hk => by
        unfold pW
        rw [hmlen] at hk
        rw [List.getElem?_eq_none (by rw [hol]; omega)]
        simp
        omega)
    have hevi : ∀ x, x ∈ oi.op.operands.toList → VR (fun k => if pW ops i m.length (ow i) k then ρ k else none) (ev (tr i).1 x) (a.eval x) := by
      intro x hx
      unfold opsP at hops
      exact belowP_vr (p := pW ops i m.length (ow i)) (fun k hk => by simp only [hk, if_true]) 4 ((List.all_eq_true.1 hops) x hx) (hev x hx)
    refine astep_wp hs hnum hx9 hmi hevi hok hstep fun v' w1 ρ1 hvv hm1 hx1 => hK _ _ ?_
    obtain ⟨hfit, hdead, hset⟩ := umK_set ht hip hnb hLsz hunf
    have hlen1 : (tr (i + 1)).2.length = (tr i).2.length + bs.length := by rw [hnb]; simp
    obtain ⟨ρ2, h1, h2, h3, h4, h5⟩ := acollAt_sound (N := m.length + (tr i).2.length) hmr hext (by omega) (by simp [hmlen]) (Nat.le_refl _) (fun k x hk => by
        split at hk
        · exact hk
        · cases hk) (fun k e cs => sealed_ro k e cs) hm1 hx1 hvv hcoll hfit
      (fun j hj => ⟨hdead j hj, by rw [Nat.add_assoc]; exact hnone i _ hip (by omega) (by omega) hunf⟩)
    rw [hset] at h3 h4
    obtain ⟨hb3, _⟩ := mr_below hm0 (below_of_sealed hx1)
    refine fin v' w1 ρ2 h1 h2 h3 h4 hb3 fun q b hq hb1 hb2 hl => ?_
    have hqi : q ≠ i := by
      rintro rfl
      rw [getD_set_self hLsz false] at hl; cases hl
    rw [h5 _ (fun hin => hqi (ht.owner_unique hq hip ⟨hb1, hb2⟩ ⟨by omega, by omega⟩))]
    exact nonef q b hq hb1 hb2 hl
theorem u_any {D : List Deferred} {E : Env} {self : Self} (hs : CallOK E.P (ainv E self)) (hnum : noNum E.P) (hx9 : XOK E) {ops : Array Oper} (hedge : edgesB ops = true) (hslots : slotsB ops = true)
    {m : Mem} {tr : Nat → List Value × List Blk} {ow : Nat → List Nat} (ht : UTrace E self ops m tr ow) {ρ0 : Ren} {w0 : World} {Q : Exit → Act → World → Prop} (hQ : ∀ a w, KInv D E ops m tr ρ0 w0 (Array.replicate ops.size true) a w → Q .normal a w) :
    ∀ (f : Nat) (L : Array Bool) (a : Act) (w : World), KInv D E ops m tr ρ0 w0 L a w → (List.range ops.size).countP (fun i => !L.getD i true) = f → wpAny E.P .any ops Q f L a w
  | 0, L, a, w, hi, hc => by
    have hall : ∀ i, i < ops.size → L.getD i true = true := by
      intro i hip
      rw [List.countP_eq_zero] at hc
      have := hc i (List.mem_range.2 hip)
      simpa using this
    have hL : L = Array.replicate ops.size true := by
      have hsz := hi.head.size
      apply Array.ext
      · simp [hsz]
      · intro i h1 h2
        have h3 := hall i (by omega)
        simp [h1] at h3
        simp [h3]
    refine ⟨?_, hQ a w (hL ▸ hi)⟩
    apply List.eq_nil_iff_forall_not_mem.2
    intro i hr
    obtain ⟨hun, oi, hoi, _⟩ := mem_ready.1 hr
    rw [hall i (Array.getElem?_eq_some_iff.1 hoi).1] at hun
    cases hun
  | f + 1, L, a, w, hi, hc => by
    have hex : ∃ i, i < ops.size ∧ L.getD i true = false := by
      apply Classical.byContradiction
      intro hno
      have : (List.range ops.size).countP (fun i => !L.getD i true) = 0 := by
        rw [List.countP_eq_zero]
        intro i hi'
        have hip := List.mem_range.1 hi'
        have : L.getD i true ≠ false := fun e => hno ⟨i, hip, e⟩
        simpa using this
      omega
    have hleast : ∃ i, i < ops.size ∧ L.getD i true = false ∧ ∀ j, j < i → L.getD j true = true := by
      obtain ⟨i, hip, hif⟩ := hex
      induction i using Nat.strongRecOn with
      | _ i ih =>
        by_cases h1 : ∃ j, j < i ∧ L.getD j true = false
        · obtain ⟨j, hj, hjf⟩ := h1
          exact ih j hj (by omega) hjf
        · refine ⟨i, hip, hif, fun j hj => ?_⟩
          have : L.getD j true ≠ false := fun e => h1 ⟨j, hj, e⟩
          simpa using this
    obtain ⟨i0, hi0, hif0, hmin⟩ := hleast
    have hready : i0 ∈ Region.ready .any ops L := by
      have ho : ops[i0]? = some ops[i0] := by simp
      refine mem_ready.2 ⟨hif0, ops[i0], ho, fun e he hb => ?_⟩
      have h1 := (List.all_eq_true.1 hedge) i0 (List.mem_range.2 (by omega))
      rw [ho] at h1
      simp only at h1
      have h2 := (Array.all_eq_true'.1 h1) e he
      simp only [hb, Bool.not_true, Bool.false_or, decide_eq_true_eq] at h2
      have h3 := hmin e.on h2
      have hlt : e.on < L.size := by rw [hi.head.size]; omega
      simp [hlt] at h3 ⊢; exact h3
    refine ⟨fun hnil => (by rw [hnil] at hready; cases hready), fun i hr => ?_⟩
    refine u_step hs hnum hx9 hslots ht L a w hi hr fun a1 w1 hi1 => ?_
    refine u_any hs hnum hx9 hedge hslots ht hQ f _ a1 w1 hi1 ?_
    obtain ⟨hun, oi, hoi, _⟩ := mem_ready.1 hr
    have hip : i < ops.size := (Array.getElem?_eq_some_iff.1 hoi).1
    have hLsz : i < L.size := by rw [hi.head.size]; exact hip
    have := countP_set (p := fun j => !L.getD j true) (q := fun j => !(L.setIfInBounds i true).getD j true) ops.size i hip (by simp [hun]) (by simp [getD_set_self hLsz true]) (fun x hx => by rw [getD_set_ne true (fun e => hx e.symm)])
    omega
theorem amkU_sound {E : Env} {self : Self} (hs : CallOK E.P (ainv E self)) (hnum : noNum E.P) (hx9 : XOK E) (hmix : E.P.follows .mixedOrders = true) {ops : Array Oper} (hok : mkOkB ops = true) {T T1 : List Value} {m m1 : Mem}
    (h : amkU E self ops T m = some (T1, m1)) (id : Nat) {D : List Deferred} (ρ : Ren) (w : World) (a : Act) (hd : a.defers = D) (hm : MR E.P ρ m w) (ht : TR ρ T a.tmps) :
    (Code.region id ops true).wp E.P (fun e a1 w1 => e = .normal ∧ Post D E.P ρ m w T1 m1 a1 w1) a w := by
  simp only [mkOkB, Bool.and_eq_true] at hok
  obtain ⟨_, hedge, hslots⟩ := hok
  unfold amkU at h
  split at h
  · rename_i T2 nb hT2
    cases h
    obtain ⟨tr, ow, h0, o0, h1, hst⟩ := amkUT_trace (E := E) (self := self) (ops := ops) (m := m) ops.toList 0 T [] [] T1 nb hT2
    have hlen : ops.toList.length = ops.size := by simp
    rw [hlen] at h1
    have htr : UTrace E self ops m tr ow := ⟨fun i o ho => by
      have := hst i o (by simpa using ho)
      rw [Nat.zero_add] at this
      exact this, by rw [h0], o0⟩
    refine wp_region_any hmix ?_
    have hcnt : (List.range ops.size).countP (fun i => !(Array.replicate ops.size false).getD i true) = ops.size := by
      have : ∀ q, q ≤ ops.size → (List.range q).countP (fun i => !(Array.replicate ops.size false).getD i true) = q := by
        intro q
        induction q with
        | zero => intro _; rfl
        | succ q ih =>
          intro hq
          rw [List.range_succ, List.countP_append, ih (by omega)]
          have hlt : q < ops.size := by omega
          simp [hlt]
      exact this _ (Nat.le_refl _)
    refine u_any hs hnum hx9 hedge hslots htr (D := D) (ρ0 := ρ) (w0 := { w with drawn := w.drawn + 1 }) (fun a2 w2 hi2 => ⟨rfl, ?fin⟩) ops.size (Array.replicate ops.size false) a { w with drawn := w.drawn + 1 } ?start hcnt
    case fin =>
      obtain ⟨ρ1, hmr, hext, _, hnone, hnew, hold⟩ := hi2.ex
      have hsz9 : ∀ j, isW E.P E.wr ops j = true → j < ops.size := by
        intro j hj
        unfold isW at hj
        split at hj
        · rename_i o ho; exact (Array.getElem?_eq_some_iff.1 ho).1
        · cases hj
      have hmL : mK m tr ops.size (Array.replicate ops.size true) = m ++ nb := by
        rw [umK_all htr fun j hj => by simp [hsz9 j hj], h1]
      rw [hmL] at hmr hext
      refine ⟨hi2.defers, ρ1, ⟨by have := htr.length _ (Nat.le_refl _); rw [h1] at this; rw [this]; exact hi2.size, fun t x y hx hy => ?_⟩, hmr, ((Ext.refl' w hm.dom).drawn (w.drawn + 1)).trans hext⟩
      have hx' : (tr ops.size).1[t]? = some x := by rw [h1]; exact hx
      by_cases hex : ∃ j, j < ops.size ∧ DstIs ops j t
      · obtain ⟨j, hj, hdj⟩ := hex
        exact hnew t x y ⟨j, hj, hdj, by simp [hj]⟩ hx' hy
      · refine hold t x y (fun ⟨j, hj, hdj, _⟩ => hex ⟨j, hj, hdj⟩) ?_ hy
        rw [← htr.old _ (Nat.le_refl _) t hex]; exact hx'
    case start =>
      have hdead : ∀ b ∈ (List.range (tr ops.size).2.length).map (kb tr ops.size (Array.replicate ops.size false)), b = .dead := by
        intro b hb
        obtain ⟨k, hk, rfl⟩ := List.mem_map.1 hb
        unfold kb
        split
        · simp only [getD_replicate_false]
          rfl
        · rfl
      have hnone : ∀ k, ρ (m.length + k) = none := fun k => hm.dom _ (by omega)
      refine ⟨⟨by simp, fun j oj _ hl => (by rw [getD_replicate_false] at hl; cases hl), fun t h8 h9 => (by omega)⟩, hd, by rw [h0]; exact ht.size, ρ, (hm.drawn _).deads hdead, ?_, hm.drawn _,
        fun i b _ _ _ _ => hnone b, fun t x y ⟨j, _, _, hl⟩ => (by rw [getD_replicate_false] at hl; cases hl), fun t x y _ hx hy => (by rw [h0] at hx; exact ht.at_ t x y hx hy)⟩
      refine ⟨Ren.le_refl _, fun _ _ => rfl, by rw [mK_length]; omega, fun k x hk hx' => by (rw [hm.dom k hk] at hx'; cases hx'), rfl, rfl, rfl, Nat.le_refl _, fun _ _ _ => rfl, fun k e cs x hk hx' => ?_⟩
      by_cases hlt : k < m.length
      · rw [mK_old hlt] at hk
        exact .inr ⟨k, e, cs, x, hk, hx', rfl⟩
      · rw [hm.dom k (by omega)] at hx'; cases hx'
  · cases h
def depB (P : Program) (wr : FuncId → Bool) (ops : Array Oper) : Bool := (List.range ops.size).any fun i => isW P wr ops i && (List.range i).any fun j => isW P wr ops j && chainB ops 4 i j
def isL (P : Program) (wr : FuncId → Bool) (ops : Array Oper) (i : Nat) : Bool := match ops[i]? with
  | some o => cls P wr o == 1
  | none => false
def useU (P : Program) (wr : FuncId → Bool) (ops : Array Oper) : Bool := depB P wr ops || (List.range ops.size).any fun i => isL P wr ops i && (!lateB P wr ops i && (List.range i).any fun j => isW P wr ops j && chainB ops 4 i j)
def amk (E : Env) (self : Self) (ops : Array Oper) (T : List Value) (m : Mem) : Option (List Value × Mem) := match useU E.P E.wr ops with
  | true => amkU E self ops T m
  | false => amk0 E self ops T m
theorem amk_sound {E : Env} {self : Self} (hs : CallOK E.P (ainv E self)) (hnum : noNum E.P) (hx9 : XOK E) (hmix : E.P.follows .mixedOrders = true) {ops : Array Oper} (hok : mkOkB ops = true) {T T1 : List Value} {m m1 : Mem}
    (h : amk E self ops T m = some (T1, m1)) (id : Nat) {D : List Deferred} (ρ : Ren) (w : World) (a : Act) (hd : a.defers = D) (hm : MR E.P ρ m w) (ht : TR ρ T a.tmps) :
    (Code.region id ops true).wp E.P (fun e a1 w1 => e = .normal ∧ Post D E.P ρ m w T1 m1 a1 w1) a w := by
  unfold amk at h
  split at h
  · exact amkU_sound hs hnum hx9 hmix hok h id ρ w a hd hm ht
  · exact amk0_sound hs hnum hx9 hmix hok h id ρ w a hd hm ht
end
end Go.Am
