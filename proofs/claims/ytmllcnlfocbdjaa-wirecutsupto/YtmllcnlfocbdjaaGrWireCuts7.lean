/-
  Texts of my own, put together: K4, 8, S, U.
-/
import Derived.Test.YtmllcnlfocbdjaaGrWireCuts6
/-
  The abstract machine: regions that make several rows: the text's order, and any order (own work; nothing of a dump).
-/
set_option linter.unusedSimpArgs false
set_option linter.unusedVariables false
namespace Go.Am
noncomputable section

/-- i waits for all that write or make, and they stand ahead of it in the text. -/
def lateB (P : Program) (wr : FuncId → Bool) (ops : Array Oper) (i : Nat) : Bool :=
  (List.range ops.size).all fun j => !isW P wr ops j || (decide (j < i) && chainB ops 4 i j)

def opsBelow (n : Nat) (T : List Value) (o : Oper) : Bool := o.op.operands.toList.all fun x => belowC n 4 (ev T x)

/-- The temporaries and the new blocks behind such a region, in the text's order. -/
def amkT (E : Env) (self : Self) (ops : Array Oper) (m : Mem) : List Oper → Nat → List Value → List Blk → Option (List Value × List Blk)
  | [], _, T, nb => some (T, nb)
  | o :: l, i, T, nb => match agd ops T o with
    | some true => if okOp E.P o.op then match cls E.P E.wr o with
        | 0 => match afloat E.P T o with
          | some v => amkT E self ops m l (i + 1) (aput T o.dst v) nb
          | none => none
        | 1 => match lateB E.P E.wr ops i with
          | true => match astep E self T ((m ++ nb).map sealed) o with
            | some (v, m1) => if m1.length = m.length + nb.length then amkT E self ops m l (i + 1) (aput T o.dst v) nb else none
            | none => none
          | false => if opsBelow m.length T o then match astep E self T (m.map sealed) o with
              | some (v, m1) => match acollAt m.length (m.length + nb.length) v m1 with
                | some (v', []) => amkT E self ops m l (i + 1) (aput T o.dst v') nb
                | _ => none
              | none => none
            else none
        | _ => if opsBelow m.length T o then match astep E self T (m.map sealed) o with
            | some (v, m1) => match acollAt m.length (m.length + nb.length) v m1 with
              | some (v', bs) => amkT E self ops m l (i + 1) (aput T o.dst v') (nb ++ bs)
              | none => none
            | none => none
          else none
      else none
    | some false => amkT E self ops m l (i + 1) (aput T o.dst undef) nb
    | none => none

def amk (E : Env) (self : Self) (ops : Array Oper) (T : List Value) (m : Mem) : Option (List Value × Mem) := match amkT E self ops m ops.toList 0 T [] with
  | some (T1, nb) => some (T1, m ++ nb)
  | none => none

def mkOkB (ops : Array Oper) : Bool := Region.noSelect ops && (edgesB ops && slotsB ops)

/-- One step of the text's order. -/
def KStp (E : Env) (self : Self) (ops : Array Oper) (m : Mem) (i : Nat) (o : Oper) (T : List Value) (nb : List Blk) (T' : List Value) (nb' : List Blk) : Prop :=
  ∃ v, T' = aput T o.dst v ∧ (
    (agd ops T o = some false ∧ v = undef ∧ nb' = nb) ∨
    (agd ops T o = some true ∧ okOp E.P o.op = true ∧ ((afloat E.P T o = some v ∧ nb' = nb) ∨
      (lateB E.P E.wr ops i = true ∧ nb' = nb ∧ ∃ m1, astep E self T ((m ++ nb).map sealed) o = some (v, m1) ∧ m1.length = m.length + nb.length) ∨
      (opsBelow m.length T o = true ∧ ∃ v0 m1 bs, astep E self T (m.map sealed) o = some (v0, m1) ∧ acollAt m.length (m.length + nb.length) v0 m1 = some (v, bs) ∧ nb' = nb ++ bs ∧ (bs ≠ [] → isW E.P E.wr ops i = true)))))

theorem amkT_trace {E : Env} {self : Self} {ops : Array Oper} {m : Mem} : ∀ (l : List Oper) (i : Nat) (T : List Value) (nb : List Blk) (T1 : List Value) (nb1 : List Blk), (∀ j, l[j]? = ops[i + j]?) → amkT E self ops m l i T nb = some (T1, nb1) →
    ∃ tr : Nat → List Value × List Blk, tr 0 = (T, nb) ∧ tr l.length = (T1, nb1) ∧ ∀ j o, l[j]? = some o → KStp E self ops m (i + j) o (tr j).1 (tr j).2 (tr (j + 1)).1 (tr (j + 1)).2
  | [], i, T, nb, T1, nb1, _, h => by
    simp only [amkT, Option.some.injEq, Prod.mk.injEq] at h
    obtain ⟨rfl, rfl⟩ := h
    exact ⟨fun _ => (T, nb), rfl, rfl, fun j o h => by simp at h⟩
  | o :: l, i, T, nb, T1, nb1, hl, h => by
    have hl' : ∀ j, l[j]? = ops[i + 1 + j]? := fun j => by have := hl (j + 1); simpa [Nat.add_assoc, Nat.add_comm 1 j] using this
    have h0 : ops[i]? = some o := by simpa using (hl 0).symm
    have key : ∀ T2 nb2, KStp E self ops m i o T nb T2 nb2 → amkT E self ops m l (i + 1) T2 nb2 = some (T1, nb1) → ∃ tr : Nat → List Value × List Blk, tr 0 = (T, nb) ∧ tr (o :: l).length = (T1, nb1) ∧
        ∀ j o', (o :: l)[j]? = some o' → KStp E self ops m (i + j) o' (tr j).1 (tr j).2 (tr (j + 1)).1 (tr (j + 1)).2 := by
      intro T2 nb2 hs h2
      obtain ⟨tr, t0, t1, hst⟩ := amkT_trace l (i + 1) T2 nb2 T1 nb1 hl' h2
      refine ⟨fun j => match j with | 0 => (T, nb) | j + 1 => tr j, rfl, t1, fun j o' ho => ?_⟩
      cases j with
      | zero => simp at ho; subst ho; show KStp _ _ _ _ _ _ T nb (tr 0).1 (tr 0).2; rw [t0]; exact hs
      | succ j => simp at ho; have := hst j o' ho; rw [show i + 1 + j = i + (j + 1) by omega] at this; exact this
    unfold amkT at h
    split at h
    · rename_i hg
      split at h
      · rename_i hok
        split at h
        · split at h
          · rename_i v hf
            exact key _ _ ⟨v, rfl, .inr ⟨hg, hok, .inl ⟨hf, rfl⟩⟩⟩ h
          · cases h
        · split at h
          · rename_i hla
            split at h
            · rename_i v m1 hst
              split at h
              · rename_i hlen
                exact key _ _ ⟨v, rfl, .inr ⟨hg, hok, .inr (.inl ⟨hla, rfl, m1, hst, hlen⟩)⟩⟩ h
              · cases h
            · cases h
          · split at h
            · rename_i hb
              split at h
              · rename_i v m1 hst
                split at h
                · rename_i v' hc
                  exact key _ _ ⟨v', rfl, .inr ⟨hg, hok, .inr (.inr ⟨hb, v, m1, [], hst, hc, by simp, fun h => absurd rfl h⟩)⟩⟩ h
                · cases h
              · cases h
            · cases h
        · rename_i hc0 hc1
          split at h
          · rename_i hb
            split at h
            · rename_i v m1 hst
              split at h
              · rename_i v' bs hc
                refine key _ _ ⟨v', rfl, .inr ⟨hg, hok, .inr (.inr ⟨hb, v, m1, bs, hst, hc, rfl, fun _ => ?_⟩)⟩⟩ h
                unfold isW
                rw [h0]
                have hle := cls_le E.P E.wr o
                have h2 : cls E.P E.wr o = 2 := by
                  rcases Nat.lt_or_ge (cls E.P E.wr o) 1 with h3 | h3
                  · exact absurd (by omega) hc0
                  · rcases Nat.lt_or_ge (cls E.P E.wr o) 2 with h4 | h4
                    · exact absurd (by omega) hc1
                    · omega
                simp [h2]
              · cases h
            · cases h
          · cases h
      · cases h
    · rename_i hg
      exact key _ _ ⟨undef, rfl, .inl ⟨hg, rfl, rfl⟩⟩ h
    · cases h

/-- The text's order, step by step. -/
structure KTrace (E : Env) (sf : Self) (ops : Array Oper) (m : Mem) (tr : Nat → List Value × List Blk) : Prop where
  step : ∀ (i : Nat) (o : Oper), ops[i]? = some o → KStp E sf ops m i o (tr i).1 (tr i).2 (tr (i + 1)).1 (tr (i + 1)).2
  zero : (tr 0).2 = []

namespace KTrace
variable {E : Env} {self : Self} {ops : Array Oper} {m : Mem} {tr : Nat → List Value × List Blk}

theorem length (h : KTrace E self ops m tr) : ∀ k, k ≤ ops.size → (tr k).1.length = (tr 0).1.length := by
  intro k
  induction k with
  | zero => intro _; rfl
  | succ k ih =>
    intro hk
    obtain ⟨v, hv, _⟩ := h.step k ops[k] (by simp)
    rw [hv, aput_length, ih (by omega)]

theorem old (h : KTrace E self ops m tr) : ∀ k, k ≤ ops.size → ∀ t : Nat, (¬ ∃ j, j < k ∧ DstIs ops j t) → (tr k).1[t]? = (tr 0).1[t]? := by
  intro k
  induction k with
  | zero => intro _ t _; rfl
  | succ k ih =>
    intro hk t hno
    obtain ⟨v, hv, _⟩ := h.step k ops[k] (by simp)
    rw [hv, aput_other, ih (by omega) t fun ⟨j, hj, hd⟩ => hno ⟨j, by omega, hd⟩]
    intro hd
    exact hno ⟨k, by omega, ops[k], by simp, hd⟩

theorem new (h : KTrace E self ops m tr) (hs : slotsB ops = true) : ∀ d k, k + d = ops.size → ∀ t : Nat, (∃ j, j < k ∧ DstIs ops j t) → (tr k).1[t]? = (tr ops.size).1[t]? := by
  intro d
  induction d with
  | zero => intro k hk t _; rw [show k = ops.size by omega]
  | succ d ih =>
    intro k hk t hex
    rw [← ih (k + 1) (by omega) t (by obtain ⟨j, hj, hd⟩ := hex; exact ⟨j, by omega, hd⟩)]
    obtain ⟨v, hv, _⟩ := h.step k ops[k] (by simp)
    rw [hv, aput_other]
    intro hd
    obtain ⟨j, hj, oj, hoj, hdj⟩ := hex
    exact (slotsB_spec hs (i := k) (j := j) (by omega) (by omega) (by omega) (by simp) hoj hdj).1 hd

/-- What a step adds. -/
theorem grows (h : KTrace E self ops m tr) {k : Nat} (hk : k < ops.size) : ∃ bs, (tr (k + 1)).2 = (tr k).2 ++ bs ∧ (bs ≠ [] → isW E.P E.wr ops k = true) := by
  obtain ⟨v, _, h1 | ⟨_, _, h1 | h1 | h1⟩⟩ := h.step k ops[k] (by simp)
  · exact ⟨[], by simp [h1.2.2], fun h => absurd rfl h⟩
  · exact ⟨[], by simp [h1.2], fun h => absurd rfl h⟩
  · exact ⟨[], by simp [h1.2.1], fun h => absurd rfl h⟩
  · obtain ⟨_, _, _, bs, _, _, h2, h3⟩ := h1
    exact ⟨bs, h2, h3⟩

theorem prefix_ (h : KTrace E self ops m tr) : ∀ d k, k + d ≤ ops.size → ∃ bs, (tr (k + d)).2 = (tr k).2 ++ bs := by
  intro d
  induction d with
  | zero => intro k _; exact ⟨[], by simp⟩
  | succ d ih =>
    intro k hk
    obtain ⟨bs, h1⟩ := ih k (by omega)
    obtain ⟨bs2, h2, _⟩ := h.grows (k := k + d) (by omega)
    exact ⟨bs ++ bs2, by rw [show k + (d + 1) = k + d + 1 by omega, h2, h1, List.append_assoc]⟩

theorem mono (h : KTrace E self ops m tr) {i j : Nat} (hij : i ≤ j) (hj : j ≤ ops.size) : (tr i).2.length ≤ (tr j).2.length := by
  obtain ⟨bs, h1⟩ := h.prefix_ (j - i) i (by omega)
  rw [show i + (j - i) = j by omega] at h1
  rw [h1]; simp

/-- Whose block it is. -/
theorem owner (h : KTrace E self ops m tr) {b : Nat} : ∀ k, k ≤ ops.size → b < (tr k).2.length → ∃ i, i < k ∧ (tr i).2.length ≤ b ∧ b < (tr (i + 1)).2.length := by
  intro k
  induction k with
  | zero => intro _ hb; rw [h.zero] at hb; simp at hb
  | succ k ih =>
    intro hk hb
    by_cases hlt : b < (tr k).2.length
    · obtain ⟨i, hi, h1⟩ := ih (by omega) hlt
      exact ⟨i, by omega, h1⟩
    · exact ⟨k, by omega, by omega, hb⟩

theorem owner_unique (h : KTrace E self ops m tr) {b i j : Nat} (hi : i < ops.size) (hj : j < ops.size) (h1 : (tr i).2.length ≤ b ∧ b < (tr (i + 1)).2.length) (h2 : (tr j).2.length ≤ b ∧ b < (tr (j + 1)).2.length) : i = j := by
  rcases Nat.lt_trichotomy i j with hlt | rfl | hlt
  · have := h.mono (i := i + 1) (j := j) (by omega) (by omega); omega
  · rfl
  · have := h.mono (i := j + 1) (j := i) (by omega) (by omega); omega
end KTrace

/-- A new block, when some of the operations are done. -/
def kb (tr : Nat → List Value × List Blk) (n : Nat) (L : Array Bool) (b : Nat) : Blk :=
  match (List.range n).find? (fun i => decide ((tr i).2.length ≤ b ∧ b < (tr (i + 1)).2.length)) with
  | some i => if L.getD i false then (tr n).2.getD b .dead else .dead
  | none => .dead

def mK (m : Mem) (tr : Nat → List Value × List Blk) (n : Nat) (L : Array Bool) : Mem := m ++ (List.range (tr n).2.length).map (kb tr n L)

theorem mK_length {m : Mem} {tr : Nat → List Value × List Blk} {n : Nat} {L : Array Bool} : (mK m tr n L).length = m.length + (tr n).2.length := by simp [mK]

theorem mK_old {m : Mem} {tr : Nat → List Value × List Blk} {n : Nat} {L : Array Bool} {k : Nat} (h : k < m.length) : (mK m tr n L)[k]? = m[k]? := by
  unfold mK; rw [List.getElem?_append_left h]

theorem mK_new {m : Mem} {tr : Nat → List Value × List Blk} {n : Nat} {L : Array Bool} {b : Nat} (h : b < (tr n).2.length) : (mK m tr n L)[m.length + b]? = some (kb tr n L b) := by
  unfold mK
  rw [List.getElem?_append_right (by omega), Nat.add_sub_cancel_left, List.getElem?_map, List.getElem?_range h]
  rfl

section
variable {E : Env} {self : Self} {ops : Array Oper} {m : Mem} {tr : Nat → List Value × List Blk}

theorem kb_owner (h : KTrace E self ops m tr) {i b : Nat} (hi : i < ops.size) (hb : (tr i).2.length ≤ b ∧ b < (tr (i + 1)).2.length) (L : Array Bool) : kb tr ops.size L b = if L.getD i false then (tr ops.size).2.getD b .dead else .dead := by
  unfold kb
  have : (List.range ops.size).find? (fun i => decide ((tr i).2.length ≤ b ∧ b < (tr (i + 1)).2.length)) = some i := by
    cases hf : (List.range ops.size).find? (fun i => decide ((tr i).2.length ≤ b ∧ b < (tr (i + 1)).2.length)) with
    | none =>
      rw [List.find?_eq_none] at hf
      have := hf i (List.mem_range.2 hi)
      simp [hb.1, hb.2] at this
    | some j =>
      have h1 := List.find?_some hf
      have h2 := List.mem_range.1 (List.mem_of_find?_eq_some hf)
      rw [h.owner_unique hi h2 hb (by simpa using h1)]
  rw [this]

/-- Who adds no block turns none. -/
theorem mK_same (h : KTrace E self ops m tr) {i : Nat} (hi : i < ops.size) (hs : (tr (i + 1)).2 = (tr i).2) {L : Array Bool} (hL : i < L.size) : mK m tr ops.size (L.setIfInBounds i true) = mK m tr ops.size L := by
  unfold mK
  congr 1
  refine List.map_congr_left fun b hb => ?_
  obtain ⟨j, hj, h1⟩ := h.owner ops.size (Nat.le_refl _) (List.mem_range.1 hb)
  rw [kb_owner h hj h1, kb_owner h hj h1, getD_put hL]
  have hji : j ≠ i := by
    rintro rfl
    rw [hs] at h1
    omega
  rw [if_neg hji]

/-- Who adds blocks lays them. -/
theorem mK_set (h : KTrace E self ops m tr) {i : Nat} (hi : i < ops.size) {bs : List Blk} (hs : (tr (i + 1)).2 = (tr i).2 ++ bs) {L : Array Bool} (hL : i < L.size) (hun : L.getD i false = false) :
    m.length + (tr i).2.length + bs.length ≤ (mK m tr ops.size L).length ∧ (∀ j, j < bs.length → (mK m tr ops.size L)[m.length + (tr i).2.length + j]? = some .dead) ∧
    setAll (mK m tr ops.size L) (m.length + (tr i).2.length) bs = mK m tr ops.size (L.setIfInBounds i true) := by
  have hle : (tr (i + 1)).2.length ≤ (tr ops.size).2.length := h.mono (by omega) (Nat.le_refl _)
  have hlen1 : (tr (i + 1)).2.length = (tr i).2.length + bs.length := by rw [hs]; simp
  have hfit : m.length + (tr i).2.length + bs.length ≤ (mK m tr ops.size L).length := by rw [mK_length]; omega
  have hown : ∀ j, j < bs.length → (tr i).2.length ≤ (tr i).2.length + j ∧ (tr i).2.length + j < (tr (i + 1)).2.length := fun j hj => ⟨by omega, by omega⟩
  refine ⟨hfit, fun j hj => ?_, ?_⟩
  · rw [Nat.add_assoc, mK_new (by omega), kb_owner h hi (hown j hj), hun]
    simp
  · apply List.ext_getElem?
    intro k
    rw [setAll_get hfit]
    by_cases hk : k < m.length
    · rw [if_neg (by omega), mK_old hk, mK_old hk]
    · obtain ⟨b, rfl⟩ : ∃ b, k = m.length + b := ⟨k - m.length, by omega⟩
      by_cases hb : b < (tr ops.size).2.length
      · rw [mK_new hb, mK_new hb]
        by_cases hin : m.length + (tr i).2.length ≤ m.length + b ∧ m.length + b < m.length + (tr i).2.length + bs.length
        · rw [if_pos hin]
          have ho : (tr i).2.length ≤ b ∧ b < (tr (i + 1)).2.length := ⟨by omega, by omega⟩
          rw [kb_owner h hi ho, getD_put hL, if_pos rfl]
          simp only [if_true]
          obtain ⟨bs2, h2⟩ := h.prefix_ (ops.size - (i + 1)) (i + 1) (by omega)
          rw [show i + 1 + (ops.size - (i + 1)) = ops.size by omega] at h2
          rw [h2, hs, List.getD_eq_getElem?_getD, List.append_assoc, List.getElem?_append_right (by omega), List.getElem?_append_left (by omega)]
          rw [show m.length + b - (m.length + (tr i).2.length) = b - (tr i).2.length by omega]
          have hlt : b - (tr i).2.length < bs.length := by omega
          simp [hlt]
        · rw [if_neg hin]
          obtain ⟨j, hj, h1⟩ := h.owner ops.size (Nat.le_refl _) hb
          rw [kb_owner h hj h1, kb_owner h hj h1, getD_put hL]
          have hji : j ≠ i := by
            rintro rfl
            omega
          rw [if_neg hji]
      · rw [if_neg (by omega), List.getElem?_eq_none (by rw [mK_length]; omega), List.getElem?_eq_none (by rw [mK_length]; omega)]

/-- When all that add blocks are done, they all lie there. -/
theorem mK_all (h : KTrace E self ops m tr) {L : Array Bool} (hL : ∀ j, isW E.P E.wr ops j = true → L.getD j false = true) : mK m tr ops.size L = m ++ (tr ops.size).2 := by
  unfold mK
  congr 1
  apply List.ext_getElem?
  intro b
  rw [List.getElem?_map]
  by_cases hb : b < (tr ops.size).2.length
  · rw [List.getElem?_range hb]
    obtain ⟨j, hj, h1⟩ := h.owner ops.size (Nat.le_refl _) hb
    obtain ⟨bs, h2, h3⟩ := h.grows hj
    have hne : bs ≠ [] := by
      rintro rfl
      simp at h2
      rw [h2] at h1
      omega
    simp only [Option.map_some, kb_owner h hj h1, hL j (h3 hne), if_true]
    simp [hb]
  · rw [List.getElem?_eq_none (by simp; omega), List.getElem?_eq_none (by omega)]
    rfl
end

/-- Behind some of the operations, in whatever order. -/
structure KInv (D : List Deferred) (E : Env) (ops : Array Oper) (m : Mem) (tr : Nat → List Value × List Blk) (ρ0 : Ren) (w0 : World) (L : Array Bool) (a : Act) (w : World) : Prop where
  head : HeadInv .any ops ops.size L
  defers : a.defers = D
  size : (tr 0).1.length = a.tmps.size
  ex : ∃ (ρ : Ren), MR E.P ρ (mK m tr ops.size L) w ∧ Ext ρ0 m w0 ρ (mK m tr ops.size L) w ∧ MR E.P ρ0 m w ∧
    (∀ i b, i < ops.size → (tr i).2.length ≤ b → b < (tr (i + 1)).2.length → L.getD i false = false → ρ (m.length + b) = none) ∧
    (∀ (t : Nat) (x y : Value), (∃ j, j < ops.size ∧ DstIs ops j t ∧ L.getD j false = true) → (tr ops.size).1[t]? = some x → a.tmps[t]? = some y → VR ρ x y) ∧
    (∀ (t : Nat) (x y : Value), (¬ ∃ j, j < ops.size ∧ DstIs ops j t ∧ L.getD j false = true) → (tr 0).1[t]? = some x → a.tmps[t]? = some y → VR ρ x y)

theorem mk_step {D : List Deferred} {E : Env} {self : Self} (hs : CallOK E.P (ainv E self)) (hnum : noNum E.P) (hx9 : XOK E) {ops : Array Oper} (hslots : slotsB ops = true)
    {m : Mem} {tr : Nat → List Value × List Blk} (ht : KTrace E self ops m tr) {ρ0 : Ren} {w0 : World}
    (L : Array Bool) (a : Act) (w : World) (hi : KInv D E ops m tr ρ0 w0 L a w) {i : Nat} (hr : i ∈ Region.ready .any ops L) {K : Act → World → Prop} {Q : Exit → Act → World → Prop}
    (hK : ∀ a1 w1, KInv D E ops m tr ρ0 w0 (L.setIfInBounds i true) a1 w1 → K a1 w1) : wpOp E.P ops Q i K a w := by
  obtain ⟨hun, oi, hoi, hall⟩ := mem_ready.1 hr
  have hip : i < ops.size := (Array.getElem?_eq_some_iff.1 hoi).1
  have hunf := getD_both hun
  have hLsz : i < L.size := by rw [hi.head.size]; exact hip
  obtain ⟨ρ, hmr, hext, hm0, hnone, hnew, hold⟩ := hi.ex
  -- the slots that the operation looks at
  have slot : ∀ t, t ∈ oi.looksAt ops → ∀ x y, (tr i).1[t]? = some x → a.tmps[t]? = some y → VR ρ x y := by
    intro t htl x y hx hy
    by_cases hex : ∃ j, j < i ∧ DstIs ops j t
    · obtain ⟨j, hj, oj, hoj, hd⟩ := hex
      rcases (slotsB_spec hslots hip (j := j) (by omega) (by omega) hoi hoj hd).2 htl with hw | hw
      · refine hnew t x y ⟨j, by omega, ⟨oj, hoj, hd⟩, ready_of_waits hr hw.2⟩ ?_ hy
        rw [← ht.new hslots (ops.size - i) i (by omega) t ⟨j, hj, oj, hoj, hd⟩]; exact hx
      · omega
    · refine hold t x y ?_ ?_ hy
      · rintro ⟨j, hj, ⟨oj, hoj, hd⟩, hl⟩
        by_cases hji : i = j
        · subst hji
          rw [hunf] at hl; cases hl
        · rcases (slotsB_spec hslots hip hj hji hoi hoj hd).2 htl with hw | hw
          · exact hex ⟨j, hw.1, oj, hoj, hd⟩
          · have := listed_of_waits hi.head hw.2 hl
            rw [hunf] at this; cases this
      · rw [← ht.old i (by omega) t hex]; exact hx
  obtain ⟨v, hv, hcase⟩ := ht.step i oi hoi
  -- what holds behind it
  have fin : ∀ v' w1 ρ1, VR ρ1 v v' → ρ.le ρ1 → MR E.P ρ1 (mK m tr ops.size (L.setIfInBounds i true)) w1 → Ext ρ0 m w0 ρ1 (mK m tr ops.size (L.setIfInBounds i true)) w1 → MR E.P ρ0 m w1 →
      (∀ q b, q < ops.size → (tr q).2.length ≤ b → b < (tr (q + 1)).2.length → (L.setIfInBounds i true).getD q false = false → ρ1 (m.length + b) = none) →
      KInv D E ops m tr ρ0 w0 (L.setIfInBounds i true) (a.put oi.dst v') w1 := by
    intro v' w1 ρ1 hvv hle hm1 hx1 hm01 hnone1
    have hsz1 : (a.put oi.dst v').tmps.size = a.tmps.size := by cases oi.dst <;> simp [Act.put]
    have hother : ∀ t, oi.dst ≠ some t → (a.put oi.dst v').tmps[t]? = a.tmps[t]? := by
      intro t ht9
      cases hd : oi.dst with
      | none => rfl
      | some d =>
        simp only [Act.put, Array.getElem?_setIfInBounds]
        rw [if_neg (fun e => ht9 (by rw [hd, e]))]
    refine ⟨hi.head.set hr hip, by rw [put_defers]; exact hi.defers, by rw [hsz1]; exact hi.size, ρ1, hm1, hx1, hm01, hnone1, ?_, ?_⟩
    · rintro t x y ⟨j, hj, ⟨oj, hoj, hd⟩, hl⟩ hx hy
      by_cases hji : i = j
      · subst hji
        rw [hoi] at hoj; cases hoj
        rw [← ht.new hslots (ops.size - (i + 1)) (i + 1) (by omega) t ⟨i, by omega, oi, hoi, hd⟩, hv, hd] at hx
        rw [hd] at hy
        have htl : t < (tr i).1.length := by
          have := (List.getElem?_eq_some_iff.1 hx).1
          rw [aput_length] at this; exact this
        rw [aput_same htl] at hx
        have ht2 : t < a.tmps.size := by rw [← hi.size, ← ht.length i (by omega)]; exact htl
        simp only [Act.put, Array.getElem?_setIfInBounds, ht2, if_true] at hy
        cases hx; cases hy
        exact hvv
      · have hne : oi.dst ≠ some t := (slotsB_spec hslots hip hj hji hoi hoj hd).1
        rw [hother t hne] at hy
        rw [getD_set_ne false hji] at hl
        exact (hnew t x y ⟨j, hj, ⟨oj, hoj, hd⟩, hl⟩ hx hy).mono hle
    · intro t x y hno hx hy
      have hne : oi.dst ≠ some t := fun hd => hno ⟨i, hip, ⟨oi, hoi, hd⟩, getD_set_self hLsz false⟩
      rw [hother t hne] at hy
      refine (hold t x y ?_ hx hy).mono hle
      rintro ⟨j, hj, hd, hl⟩
      refine hno ⟨j, hj, hd, ?_⟩
      by_cases hji : i = j
      · subst hji; exact getD_set_self hLsz false
      · rw [getD_set_ne false hji]; exact hl
  have hsize : (tr i).1.length = a.tmps.size := by rw [ht.length i (by omega)]; exact hi.size
  have hguard : ∀ b, agd ops (tr i).1 oi = some b → Region.wanted oi (yielded ops a.tmps) = b := by
    intro b hb
    refine agd_sound hsize (fun j want oj d hg hj hd x y hx hy => slot d ?_ x y hx hy) hb
    unfold Oper.looksAt
    rw [hg]
    apply List.mem_append_right
    simp [hj, hd]
  have nonef : ∀ q b, q < ops.size → (tr q).2.length ≤ b → b < (tr (q + 1)).2.length → (L.setIfInBounds i true).getD q false = false → ρ (m.length + b) = none := by
    intro q b hq h1 h2 hl
    refine hnone q b hq h1 h2 ?_
    rw [getD_put hLsz] at hl
    split at hl
    · cases hl
    · exact hl
  unfold wpOp
  simp only [hoi]
  rcases hcase with ⟨hg, rfl, hnb⟩ | ⟨hg, hok, hcase⟩
  · rw [hguard false hg]
    simp only [Bool.false_eq_true, if_false]
    have hpl := mK_same ht hip hnb hLsz
    exact hK _ _ (fin undef w ρ (vr_undef ρ) (Ren.le_refl _) (by rw [hpl]; exact hmr) (by rw [hpl]; exact hext) hm0 nonef)
  rw [hguard true hg]
  simp only [if_true]
  left
  have hev : ∀ x, x ∈ oi.op.operands.toList → VR ρ (ev (tr i).1 x) (a.eval x) := by
    intro x hx
    have hok1 : oi.op.operands.toList.all (okOperand E.P) = true := by
      have h := hok
      simp only [okOp, Bool.and_eq_true] at h
      exact h.1
    cases x with
    | tmp t =>
      have htl : t ∈ oi.looksAt ops := by
        unfold Oper.looksAt
        apply List.mem_append_left
        exact List.mem_filterMap.2 ⟨.tmp t, hx, rfl⟩
      simp only [ev, nth_eq, Act.eval]
      by_cases hlt : t < (tr i).1.length
      · have h1 : (tr i).1[t]? = some (tr i).1[t] := by simp [hlt]
        have hlt' : t < a.tmps.size := by rw [← hsize]; exact hlt
        have h2 : a.tmps[t]? = some a.tmps[t] := by simp [hlt']
        have := slot t htl _ _ h1 h2
        simpa [List.getD, h1, Array.getD, hlt'] using this
      · have h' : ¬ t < a.tmps.size := by rw [← hsize]; exact hlt
        rw [show (tr i).1.getD t undef = undef by simp [List.getD, List.getElem?_eq_none (Nat.le_of_not_lt hlt)]]
        simp only [Array.getD, h', dite_false]
        exact vr_undef ρ
    | const k => exact ev_vr (T := []) (a := { tmps := #[], defers := [] }) hmr ⟨rfl, fun i x y hx => by simp at hx⟩ (.const k) ((List.all_eq_true.1 hok1) _ hx)
    | global g => exact ev_vr (T := []) (a := { tmps := #[], defers := [] }) hmr ⟨rfl, fun i x y hx => by simp at hx⟩ (.global g) ((List.all_eq_true.1 hok1) _ hx)
    | func f => exact .lit rfl
  rcases hcase with ⟨hfl, hnb⟩ | ⟨hla, hnb, m1, hstep, hml⟩ | ⟨hbel, v0, m1, bs, hstep, hcoll, hnb, _⟩
  · obtain ⟨v', hrun, hvv⟩ := afloat_sound (w := w) hev hok hfl
    unfold Oper.wp
    rw [hrun]
    have hpl := mK_same ht hip hnb hLsz
    exact hK _ _ (fin v' w ρ hvv (Ren.le_refl _) (by rw [hpl]; exact hmr) (by rw [hpl]; exact hext) hm0 nonef)
  · -- all that make are done
    unfold lateB at hla
    simp only [List.all_eq_true, List.mem_range, Bool.or_eq_true, Bool.not_eq_true', Bool.and_eq_true, decide_eq_true_eq] at hla
    have hsz9 : ∀ j, isW E.P E.wr ops j = true → j < ops.size := by
      intro j hj
      unfold isW at hj
      split at hj
      · rename_i o ho; exact (Array.getElem?_eq_some_iff.1 ho).1
      · cases hj
    have hdone : ∀ j, isW E.P E.wr ops j = true → j < i ∧ L.getD j false = true := by
      intro j hj
      rcases hla j (hsz9 j hj) with h1 | ⟨h1, h2⟩
      · rw [hj] at h1; cases h1
      · exact ⟨h1, ready_of_chain hi.head hr 4 h2⟩
    have hmK := mK_all ht (L := L) fun j hj => (hdone j hj).2
    have hsame : ∀ d k, i ≤ k → k + d = ops.size → (tr k).2 = (tr ops.size).2 := by
      intro d
      induction d with
      | zero => intro k _ hk; rw [show k = ops.size by omega]
      | succ d ih =>
        intro k hik hk
        obtain ⟨bs, h1, h2⟩ := ht.grows (k := k) (by omega)
        have : bs = [] := by
          apply Classical.byContradiction
          intro hne
          have := (hdone k (h2 hne)).1
          omega
        rw [← ih (k + 1) (by omega) (by omega), h1, this, List.append_nil]
    have hnbi := hsame (ops.size - i) i (Nat.le_refl _) (by omega)
    rw [hnbi, ← hmK] at hstep
    refine astep_wp hs hnum hx9 (mr_sealed hmr) hev hok hstep fun v' w1 ρ1 hvv hm1 hx1 => hK _ _ ?_
    have hlen1 : m1.length = (mK m tr ops.size L).length := by rw [hml, hnbi, mK_length]
    have hle : ρ1.le ρ := by
      intro k x hk
      by_cases hlt : k < ((mK m tr ops.size L).map sealed).length
      · rw [hx1.same k hlt] at hk; exact hk
      · rw [hm1.dom k (by simp at hlt; omega)] at hk; cases hk
    have hbe := below_of_sealed hx1
    obtain ⟨hb1, hb2⟩ := mr_below hmr hbe
    obtain ⟨hb3, _⟩ := mr_below hm0 hbe
    have hpl := mK_same ht hip hnb hLsz
    exact fin v' w1 ρ (hvv.mono hle) (Ren.le_refl _) (by rw [hpl]; exact hb1) (by rw [hpl]; exact hext.trans hb2) hb3 nonef
  · have hsame : ∀ k, k < m.length → ρ k = ρ0 k := fun k hk => hext.same k hk
    have hev0 : ∀ x, x ∈ oi.op.operands.toList → VR ρ0 (ev (tr i).1 x) (a.eval x) := by
      intro x hx
      unfold opsBelow at hbel
      exact belowC_vr hsame 4 ((List.all_eq_true.1 hbel) x hx) (hev x hx)
    refine astep_wp hs hnum hx9 (mr_sealed hm0) hev0 hok hstep fun v' w1 ρ1 hvv hm1 hx1 => hK _ _ ?_
    obtain ⟨hfit, hdead, hset⟩ := mK_set ht hip hnb hLsz hunf
    have hlen1 : (tr (i + 1)).2.length = (tr i).2.length + bs.length := by rw [hnb]; simp
    obtain ⟨ρ2, h1, h2, h3, h4, h5⟩ := acollAt_sound (N := m.length + (tr i).2.length) hmr hext (by omega) (by simp) (by omega) hext.le (fun k e cs => sealed_ro k e cs) hm1 hx1 hvv hcoll hfit
      (fun j hj => ⟨hdead j hj, by rw [Nat.add_assoc]; exact hnone i _ hip (by omega) (by omega) hunf⟩)
    rw [hset] at h3 h4
    obtain ⟨hb3, _⟩ := mr_below hm0 (below_of_sealed hx1)
    refine fin v' w1 ρ2 h1 h2 h3 h4 hb3 fun q b hq hb1 hb2 hl => ?_
    have hqi : q ≠ i := by
      rintro rfl
      rw [getD_set_self hLsz false] at hl; cases hl
    rw [h5 _ (fun hin => hqi (ht.owner_unique hq hip ⟨hb1, hb2⟩ ⟨by omega, by omega⟩))]
    exact nonef q b hq hb1 hb2 hl

theorem mk_any {D : List Deferred} {E : Env} {self : Self} (hs : CallOK E.P (ainv E self)) (hnum : noNum E.P) (hx9 : XOK E) {ops : Array Oper} (hedge : edgesB ops = true) (hslots : slotsB ops = true)
    {m : Mem} {tr : Nat → List Value × List Blk} (ht : KTrace E self ops m tr) {ρ0 : Ren} {w0 : World} {Q : Exit → Act → World → Prop} (hQ : ∀ a w, KInv D E ops m tr ρ0 w0 (Array.replicate ops.size true) a w → Q .normal a w) :
    ∀ (f : Nat) (L : Array Bool) (a : Act) (w : World), KInv D E ops m tr ρ0 w0 L a w → (List.range ops.size).countP (fun i => !L.getD i true) = f → wpAny E.P .any ops Q f L a w
  | 0, L, a, w, hi, hc => by
    have hall : ∀ i, i < ops.size → L.getD i true = true := by
      intro i hip
      rw [List.countP_eq_zero] at hc
      have := hc i (List.mem_range.2 hip)
      simpa using this
    have hL : L = Array.replicate ops.size true := by
      have hsz := hi.head.size
      apply Array.ext
      · simp [hsz]
      · intro i h1 h2
        have h3 := hall i (by omega)
        simp [h1] at h3
        simp [h3]
    refine ⟨?_, hQ a w (hL ▸ hi)⟩
    apply List.eq_nil_iff_forall_not_mem.2
    intro i hr
    obtain ⟨hun, oi, hoi, _⟩ := mem_ready.1 hr
    rw [hall i (Array.getElem?_eq_some_iff.1 hoi).1] at hun
    cases hun
  | f + 1, L, a, w, hi, hc => by
    have hex : ∃ i, i < ops.size ∧ L.getD i true = false := by
      apply Classical.byContradiction
      intro hno
      have : (List.range ops.size).countP (fun i => !L.getD i true) = 0 := by
        rw [List.countP_eq_zero]
        intro i hi'
        have hip := List.mem_range.1 hi'
        have : L.getD i true ≠ false := fun e => hno ⟨i, hip, e⟩
        simpa using this
      omega
    have hleast : ∃ i, i < ops.size ∧ L.getD i true = false ∧ ∀ j, j < i → L.getD j true = true := by
      obtain ⟨i, hip, hif⟩ := hex
      induction i using Nat.strongRecOn with
      | _ i ih =>
        by_cases h1 : ∃ j, j < i ∧ L.getD j true = false
        · obtain ⟨j, hj, hjf⟩ := h1
          exact ih j hj (by omega) hjf
        · refine ⟨i, hip, hif, fun j hj => ?_⟩
          have : L.getD j true ≠ false := fun e => h1 ⟨j, hj, e⟩
          simpa using this
    obtain ⟨i0, hi0, hif0, hmin⟩ := hleast
    have hready : i0 ∈ Region.ready .any ops L := by
      have ho : ops[i0]? = some ops[i0] := by simp
      refine mem_ready.2 ⟨hif0, ops[i0], ho, fun e he hb => ?_⟩
      have h1 := (List.all_eq_true.1 hedge) i0 (List.mem_range.2 (by omega))
      rw [ho] at h1
      simp only at h1
      have h2 := (Array.all_eq_true'.1 h1) e he
      simp only [hb, Bool.not_true, Bool.false_or, decide_eq_true_eq] at h2
      have h3 := hmin e.on h2
      have hlt : e.on < L.size := by rw [hi.head.size]; omega
      simp [hlt] at h3 ⊢; exact h3
    refine ⟨fun hnil => (by rw [hnil] at hready; cases hready), fun i hr => ?_⟩
    refine mk_step hs hnum hx9 hslots ht L a w hi hr fun a1 w1 hi1 => ?_
    refine mk_any hs hnum hx9 hedge hslots ht hQ f _ a1 w1 hi1 ?_
    obtain ⟨hun, oi, hoi, _⟩ := mem_ready.1 hr
    have hip : i < ops.size := (Array.getElem?_eq_some_iff.1 hoi).1
    have hLsz : i < L.size := by rw [hi.head.size]; exact hip
    have := countP_set (p := fun j => !L.getD j true) (q := fun j => !(L.setIfInBounds i true).getD j true) ops.size i hip (by simp [hun]) (by simp [getD_set_self hLsz true]) (fun x hx => by rw [getD_set_ne true (fun e => hx e.symm)])
    omega

theorem amk_sound {E : Env} {self : Self} (hs : CallOK E.P (ainv E self)) (hnum : noNum E.P) (hx9 : XOK E) (hmix : E.P.follows .mixedOrders = true) {ops : Array Oper} (hok : mkOkB ops = true) {T T1 : List Value} {m m1 : Mem}
    (h : amk E self ops T m = some (T1, m1)) (id : Nat) {D : List Deferred} (ρ : Ren) (w : World) (a : Act) (hd : a.defers = D) (hm : MR E.P ρ m w) (ht : TR ρ T a.tmps) :
    (Code.region id ops true).wp E.P (fun e a1 w1 => e = .normal ∧ Post D E.P ρ m w T1 m1 a1 w1) a w := by
  simp only [mkOkB, Bool.and_eq_true] at hok
  obtain ⟨_, hedge, hslots⟩ := hok
  unfold amk at h
  split at h
  · rename_i T2 nb hT2
    cases h
    obtain ⟨tr, h0, h1, hst⟩ := amkT_trace (E := E) (self := self) (ops := ops) (m := m) ops.toList 0 T [] T1 nb (by simp) hT2
    have hlen : ops.toList.length = ops.size := by simp
    rw [hlen] at h1
    have htr : KTrace E self ops m tr := ⟨fun i o ho => by
      have := hst i o (by simpa using ho)
      rw [Nat.zero_add] at this
      exact this, by rw [h0]⟩
    refine wp_region_any hmix ?_
    have hcnt : (List.range ops.size).countP (fun i => !(Array.replicate ops.size false).getD i true) = ops.size := by
      have : ∀ q, q ≤ ops.size → (List.range q).countP (fun i => !(Array.replicate ops.size false).getD i true) = q := by
        intro q
        induction q with
        | zero => intro _; rfl
        | succ q ih =>
          intro hq
          rw [List.range_succ, List.countP_append, ih (by omega)]
          have hlt : q < ops.size := by omega
          simp [hlt]
      exact this _ (Nat.le_refl _)
    refine mk_any hs hnum hx9 hedge hslots htr (D := D) (ρ0 := ρ) (w0 := { w with drawn := w.drawn + 1 }) (fun a2 w2 hi2 => ⟨rfl, ?fin⟩) ops.size (Array.replicate ops.size false) a { w with drawn := w.drawn + 1 } ?start hcnt
    case fin =>
      obtain ⟨ρ1, hmr, hext, _, hnone, hnew, hold⟩ := hi2.ex
      have hsz9 : ∀ j, isW E.P E.wr ops j = true → j < ops.size := by
        intro j hj
        unfold isW at hj
        split at hj
        · rename_i o ho; exact (Array.getElem?_eq_some_iff.1 ho).1
        · cases hj
      have hmL : mK m tr ops.size (Array.replicate ops.size true) = m ++ nb := by
        rw [mK_all htr fun j hj => by simp [hsz9 j hj], h1]
      rw [hmL] at hmr hext
      refine ⟨hi2.defers, ρ1, ⟨by have := htr.length _ (Nat.le_refl _); rw [h1] at this; rw [this]; exact hi2.size, fun t x y hx hy => ?_⟩, hmr, ((Ext.refl' w hm.dom).drawn (w.drawn + 1)).trans hext⟩
      have hx' : (tr ops.size).1[t]? = some x := by rw [h1]; exact hx
      by_cases hex : ∃ j, j < ops.size ∧ DstIs ops j t
      · obtain ⟨j, hj, hdj⟩ := hex
        exact hnew t x y ⟨j, hj, hdj, by simp [hj]⟩ hx' hy
      · refine hold t x y (fun ⟨j, hj, hdj, _⟩ => hex ⟨j, hj, hdj⟩) ?_ hy
        rw [← htr.old _ (Nat.le_refl _) t hex]; exact hx'
    case start =>
      have hdead : ∀ b ∈ (List.range (tr ops.size).2.length).map (kb tr ops.size (Array.replicate ops.size false)), b = .dead := by
        intro b hb
        obtain ⟨k, hk, rfl⟩ := List.mem_map.1 hb
        unfold kb
        split
        · simp only [getD_replicate_false]
          rfl
        · rfl
      have hnone : ∀ k, ρ (m.length + k) = none := fun k => hm.dom _ (by omega)
      refine ⟨⟨by simp, fun j oj _ hl => (by rw [getD_replicate_false] at hl; cases hl), fun t h8 h9 => (by omega)⟩, hd, by rw [h0]; exact ht.size, ρ, (hm.drawn _).deads hdead, ?_, hm.drawn _,
        fun i b _ _ _ _ => hnone b, fun t x y ⟨j, _, _, hl⟩ => (by rw [getD_replicate_false] at hl; cases hl), fun t x y _ hx hy => (by rw [h0] at hx; exact ht.at_ t x y hx hy)⟩
      refine ⟨Ren.le_refl _, fun _ _ => rfl, by rw [mK_length]; omega, fun k x hk hx' => by (rw [hm.dom k hk] at hx'; cases hx'), rfl, rfl, rfl, Nat.le_refl _, fun _ _ _ => rfl, fun k e cs x hk hx' => ?_⟩
      by_cases hlt : k < m.length
      · rw [mK_old hlt] at hk
        exact .inr ⟨k, e, cs, x, hk, hx', rfl⟩
      · rw [hm.dom k (by omega)] at hx'; cases hx'
  · cases h

end
end Go.Am

/-
  The abstract machine: code, and calls of functions (own work; nothing of a dump).
-/
set_option linter.unusedSimpArgs false
set_option linter.unusedVariables false
namespace Go.Am
noncomputable section

inductive AExit where
  | normal
  | exit (id : Nat)
  | ret

def AExit.to : AExit → Exit
  | .normal => .normal
  | .exit id => .exit id
  | .ret => .ret

abbrev CRes := Option (AExit × List Value × Mem)

def aloop (body : List Value → Mem → CRes) : Nat → List Value → Mem → CRes
  | 0, _, _ => none
  | n + 1, T, m => match body T m with
    | some (.normal, T1, m1) => aloop body n T1 m1
    | r => r

/-- A drawn region, of either kind. -/
def adraw2 (E : Env) (self : Self) (id : Nat) (ops : Array Oper) (T : List Value) (m : Mem) : Option (List Value × Mem) := match E.sr id ops with
  | true => match E.mkr id ops with
    | true => amk E self ops T m
    | false => asr E self ops T m
  | false => adraw E self ops T m
def acode (E : Env) (self : Self) (n : Nat) : Code → List Value → Mem → CRes
  | .skip, T, m => some (.normal, T, m)
  | .label _, T, m => some (.normal, T, m)
  | .region _ ops false, T, m => match aops E self ops ops.toList T m with
    | some (T1, m1) => some (.normal, T1, m1)
    | none => none
  | .region id ops true, T, m => match adraw2 E self id ops T m with
    | some (T1, m1) => some (.normal, T1, m1)
    | none => none
  | .seq a b, T, m => match acode E self n a T m with
    | some (.normal, T1, m1) => acode E self n b T1 m1
    | r => r
  | .cond c a b, T, m => if okOperand E.P c then match ev T c with
      | .bool true => acode E self n a T m
      | .bool false => acode E self n b T m
      | _ => none
    else none
  | .block id c, T, m => match acode E self n c T m with
    | some (.exit id', T1, m1) => if id' = id then some (.normal, T1, m1) else some (.exit id', T1, m1)
    | r => r
  | .loop c, T, m => aloop (acode E self n c) n T m
  | .exit id, T, m => some (.exit id, T, m)
  | .ret, T, m => some (.ret, T, m)
  | .scope c, T, m => acode E self n c T m
  | _, _, _ => none

/-- Every region that draws is one whose order makes no difference. -/
def codeOk (P : Program) (wr : FuncId → Bool) (sr mk : Nat → Array Oper → Bool) : Code → Bool
  | .region id ops draw => match draw with
    | true => (match sr id ops with
      | true => (match mk id ops with
        | true => mkOkB ops
        | false => srOkB P ops)
      | false => drawOkB P wr ops)
    | false => true
  | .seq a b => codeOk P wr sr mk a && codeOk P wr sr mk b
  | .cond _ a b => codeOk P wr sr mk a && codeOk P wr sr mk b
  | .block _ a => codeOk P wr sr mk a
  | .loop a => codeOk P wr sr mk a
  | .scope a => codeOk P wr sr mk a
  | _ => true

/-- What is asked of the program, and of what is told of it. -/
structure EnvOK (E : Env) : Prop where
  globals : E.P.globals.size ≤ E.G
  fast : FastOK E
  num : noNum E.P
  ext : XOK E
  mixed : E.P.follows .mixedOrders = true
  good : ∀ (f : Nat) (fn : Func) (c : Code), E.good f = true → E.P.funcs[f]? = some fn → fn.body = some c → codeOk E.P E.wr E.sr E.mkr c = true

def CodePost (D : List Deferred) (P : Program) (ρ : Ren) (m : Mem) (w : World) (e : AExit) (T1 : List Value) (m1 : Mem) (e' : Exit) (a1 : Act) (w1 : World) : Prop :=
  e' = e.to ∧ Post D P ρ m w T1 m1 a1 w1

theorem Post.after {D : List Deferred} {P : Program} {ρ ρ1 : Ren} {m m1 m2 : Mem} {w w1 w2 : World} {T2 : List Value} {a2 : Act} (hx : Ext ρ m w ρ1 m1 w1) (h : Post D P ρ1 m1 w1 T2 m2 a2 w2) : Post D P ρ m w T2 m2 a2 w2 := by
  obtain ⟨hd, ρ2, h1, h2, h3⟩ := h
  exact ⟨hd, ρ2, h1, h2, hx.trans h3⟩

def BodyOK (P : Program) (c : Code) (body : List Value → Mem → CRes) : Prop :=
  ∀ T m e T1 m1, body T m = some (e, T1, m1) → ∀ (D : List Deferred) (ρ : Ren) (w : World) (a : Act), a.defers = D → MR P ρ m w → TR ρ T a.tmps → c.wp P (CodePost D P ρ m w e T1 m1) a w

theorem rounds_mono {P : Program} {c : Code} : ∀ {n : Nat} {Q Q' : Exit → Act → World → Prop} {a : Act} {w : World}, Code.rounds P c Q n a w → (∀ e a w, Q e a w → Q' e a w) → Code.rounds P c Q' n a w
  | 0, _, _, _, _, h, _ => h.elim
  | n + 1, Q, Q', a, w, h, hq => by
    rw [rounds_succ] at h ⊢
    refine wp_mono h ?_
    intro e a1 w1 h1
    cases e with
    | normal => exact rounds_mono h1 hq
    | exit id => exact hq _ _ _ h1
    | goto l => exact hq _ _ _ h1
    | ret => exact hq _ _ _ h1
    | panic ch => exact hq _ _ _ h1
    | outgrown => exact hq _ _ _ h1

theorem aloop_sound {P : Program} {c : Code} {body : List Value → Mem → CRes} (hb : BodyOK P c body) :
    ∀ (n : Nat) T m e T1 m1, aloop body n T m = some (e, T1, m1) → e ≠ .normal ∧ ∀ (D : List Deferred) (ρ : Ren) (w : World) (a : Act), a.defers = D → MR P ρ m w → TR ρ T a.tmps → Code.rounds P c (CodePost D P ρ m w e T1 m1) n a w
  | 0, T, m, e, T1, m1, h => by simp [aloop] at h
  | n + 1, T, m, e, T1, m1, h => by
    unfold aloop at h
    split at h
    · rename_i T2 m2 h2
      obtain ⟨hne, ih⟩ := aloop_sound hb n _ _ _ _ _ h
      refine ⟨hne, fun D ρ w a hd hm ht => ?_⟩
      rw [rounds_succ]
      refine wp_mono (hb _ _ _ _ _ h2 D ρ w a hd hm ht) ?_
      rintro e' a1 w1 ⟨rfl, hd1, ρ1, ht1, hm1, hx1⟩
      show Code.rounds P c _ n a1 w1
      have := ih D ρ1 w1 a1 hd1 hm1 ht1
      refine rounds_mono this ?_
      rintro e'' a2 w2 ⟨rfl, hp⟩
      exact ⟨rfl, hp.after hx1⟩
    · rename_i r hr
      have hne : e ≠ .normal := by rintro rfl; exact hr _ _ h
      refine ⟨hne, fun D ρ w a hd hm ht => ?_⟩
      rw [rounds_succ]
      refine wp_mono (hb _ _ _ _ _ h D ρ w a hd hm ht) ?_
      rintro e' a1 w1 ⟨rfl, hp⟩
      cases e with
      | normal => exact absurd rfl hne
      | exit id => exact ⟨rfl, hp⟩
      | ret => exact ⟨rfl, hp⟩

theorem acode_sound {E : Env} {self : Self} (hs : CallOK E.P (ainv E self)) (hE : EnvOK E) (n : Nat) : ∀ c : Code, codeOk E.P E.wr E.sr E.mkr c = true → BodyOK E.P c (acode E self n c) := by
  intro c
  induction c with
  | skip =>
    intro _ T m e T1 m1 h D ρ w a hd hm ht
    simp only [acode, Option.some.injEq, Prod.mk.injEq] at h
    obtain ⟨rfl, rfl, rfl⟩ := h
    exact wp_skip ⟨rfl, hd, ρ, ht, hm, Ext.refl' _ hm.dom⟩
  | label l =>
    intro _ T m e T1 m1 h D ρ w a hd hm ht
    simp only [acode, Option.some.injEq, Prod.mk.injEq] at h
    obtain ⟨rfl, rfl, rfl⟩ := h
    exact wp_label ⟨rfl, hd, ρ, ht, hm, Ext.refl' _ hm.dom⟩
  | region id ops draw =>
    intro hco T m e T1 m1 h D ρ w a hd hm ht
    cases draw with
    | false =>
      simp only [acode] at h
      split at h
      · rename_i T2 m2 h2
        cases h
        exact wp_region_list (aops_sound hs hE.num hE.ext _ _ _ _ _ h2 D ρ w a hd hm ht fun a1 w1 hp => ⟨rfl, hp⟩)
      · cases h
    | true =>
      simp only [acode] at h
      split at h
      · rename_i T2 m2 h2
        cases h
        simp only [codeOk] at hco
        unfold adraw2 at h2
        cases hsr : E.sr id ops with
        | true =>
          simp only [hsr] at h2 hco
          cases hmk : E.mkr id ops with
          | true =>
            simp only [hmk] at h2 hco
            refine wp_mono (amk_sound hs hE.num hE.ext hE.mixed hco h2 id ρ w a hd hm ht) ?_
            rintro e' a1 w1 ⟨rfl, hp⟩
            exact ⟨rfl, hp⟩
          | false =>
            simp only [hmk] at h2 hco
            refine wp_mono (asr_sound hs hE.num hE.ext hE.mixed hco h2 id ρ w a hd hm ht) ?_
            rintro e' a1 w1 ⟨rfl, hp⟩
            exact ⟨rfl, hp⟩
        | false =>
          simp only [hsr] at h2 hco
          refine wp_mono (adraw_sound hs hE.num hE.ext hE.mixed hco h2 id ρ w a hd hm ht) ?_
          rintro e' a1 w1 ⟨rfl, hp⟩
          exact ⟨rfl, hp⟩
      · cases h
  | seq x y ihx ihy =>
    intro hco T m e T1 m1 h D ρ w a hd hm ht
    simp only [codeOk, Bool.and_eq_true] at hco
    have ihx := ihx hco.1
    have ihy := ihy hco.2
    simp only [acode] at h
    split at h
    · rename_i T2 m2 h2
      refine wp_seq (wp_mono (ihx _ _ _ _ _ h2 D ρ w a hd hm ht) ?_)
      rintro e' a1 w1 ⟨rfl, hd1, ρ1, ht1, hm1, hx1⟩
      show y.wp E.P _ a1 w1
      refine wp_mono (ihy _ _ _ _ _ h D ρ1 w1 a1 hd1 hm1 ht1) ?_
      rintro e'' a2 w2 ⟨rfl, hp⟩
      exact ⟨rfl, hp.after hx1⟩
    · rename_i r hr
      refine wp_seq (wp_mono (ihx _ _ _ _ _ h D ρ w a hd hm ht) ?_)
      rintro e' a1 w1 ⟨rfl, hp⟩
      cases e with
      | normal => exact absurd h (hr _ _)
      | exit id => exact ⟨rfl, hp⟩
      | ret => exact ⟨rfl, hp⟩
  | cond c x y ihx ihy =>
    intro hco T m e T1 m1 h D ρ w a hd hm ht
    simp only [codeOk, Bool.and_eq_true] at hco
    have ihx := ihx hco.1
    have ihy := ihy hco.2
    simp only [acode] at h
    split at h
    · rename_i hok
      have hv := ev_vr hm ht c hok
      split at h
      · rename_i hc
        rw [hc] at hv
        exact wp_cond (t := true) (hv.eq_of_lit2 rfl) (ihx _ _ _ _ _ h D ρ w a hd hm ht)
      · rename_i hc
        rw [hc] at hv
        exact wp_cond (t := false) (hv.eq_of_lit2 rfl) (ihy _ _ _ _ _ h D ρ w a hd hm ht)
      · cases h
    · cases h
  | block id x ihx =>
    intro hco T m e T1 m1 h D ρ w a hd hm ht
    have ihx := ihx hco
    simp only [acode] at h
    split at h
    · rename_i id' T2 m2 h2
      refine wp_block (wp_mono (ihx _ _ _ _ _ h2 D ρ w a hd hm ht) ?_)
      rintro e' a1 w1 ⟨rfl, hp⟩
      simp only [AExit.to, Exit.inBlock]
      split at h
      · rename_i he
        cases h
        rw [if_pos he]; exact ⟨rfl, hp⟩
      · rename_i he
        cases h
        rw [if_neg he]; exact ⟨rfl, hp⟩
    · rename_i r hr
      refine wp_block (wp_mono (ihx _ _ _ _ _ h D ρ w a hd hm ht) ?_)
      rintro e' a1 w1 ⟨rfl, hp⟩
      cases e with
      | normal => exact ⟨rfl, hp⟩
      | exit id' => exact absurd h (hr _ _ _)
      | ret => exact ⟨rfl, hp⟩
  | loop x ihx =>
    intro hco T m e T1 m1 h D ρ w a hd hm ht
    have ihx := ihx hco
    simp only [acode] at h
    exact wp_loop_rounds n ((aloop_sound ihx n _ _ _ _ _ h).2 D ρ w a hd hm ht)
  | exit id =>
    intro _ T m e T1 m1 h D ρ w a hd hm ht
    simp only [acode, Option.some.injEq, Prod.mk.injEq] at h
    obtain ⟨rfl, rfl, rfl⟩ := h
    exact wp_exit ⟨rfl, hd, ρ, ht, hm, Ext.refl' _ hm.dom⟩
  | ret =>
    intro _ T m e T1 m1 h D ρ w a hd hm ht
    simp only [acode, Option.some.injEq, Prod.mk.injEq] at h
    obtain ⟨rfl, rfl, rfl⟩ := h
    exact wp_ret ⟨rfl, hd, ρ, ht, hm, Ext.refl' _ hm.dom⟩
  | scope x ihx =>
    intro hco T m e T1 m1 h D ρ w a hd hm ht
    have ihx := ihx hco
    simp only [acode] at h
    refine wp_scope_straight (wp_mono (ihx _ _ _ _ _ h D ρ w a hd hm ht) ?_)
    rintro e' a1 w1 ⟨rfl, hp⟩
    cases e with
    | normal => exact ⟨rfl, hp⟩
    | exit id' => exact ⟨rfl, hp⟩
    | ret => exact ⟨rfl, hp⟩
  | rangeFunc f ps x y ihx ihy => intro _ T m e T1 m1 h; simp [acode] at h
  | goto l => intro _ T m e T1 m1 h; simp [acode] at h
  | refuse s => intro _ T m e T1 m1 h; simp [acode] at h

/-- The results. -/
def ares1 (P : Program) (T : List Value) (m : Mem) : ResultVar → Option Value
  | .tmp t => some (nth T t)
  | .cell a t => match nth T a with
    | .pointer (some ad) => aload P t (.pointer (some ad)) m
    | _ => none

def aresL (P : Program) (T : List Value) (m : Mem) : List ResultVar → Option (List Value)
  | [] => some []
  | r :: l => match ares1 P T m r with
    | some v => match aresL P T m l with
      | some vs => some (v :: vs)
      | none => none
    | none => none

def ares (P : Program) (fn : Func) (T : List Value) (m : Mem) : Option Value :=
  match aresL P T m fn.results.toList with
  | some [v] => some v
  | some vs => some (.tuple ⟨vs⟩)
  | none => none

def resSem (tmps : Array Value) : ResultVar → Sem Value
  | .tmp t => pure (tmps.getD t undef)
  | .cell a t => do loadVar t (← asAddr (tmps.getD a undef))

theorem ares1_sound {P : Program} {ρ : Ren} {m : Mem} {w : World} {T : List Value} {t : Array Value} (hm : MR P ρ m w) (ht : TR ρ T t) {r : ResultVar} {v : Value} (h : ares1 P T m r = some v) :
    ∃ v', (resSem t r).run P w = .ok v' w ∧ VR ρ v v' := by
  have hget : ∀ i, VR ρ (nth T i) (t.getD i undef) := fun i => ev_vr (a := { tmps := t, defers := [] }) hm ht (.tmp i) rfl
  cases r with
  | tmp i =>
    simp only [ares1, Option.some.injEq] at h
    subst h
    exact ⟨t.getD i undef, by simp [resSem], hget i⟩
  | cell a ty =>
    simp only [ares1] at h
    split at h
    · rename_i ad had
      have hv := hget a
      rw [had] at hv
      obtain ⟨u', hr, hu⟩ := aload_sound hm hv h
      obtain ⟨b, o, x, rfl, hx, e1⟩ := vr_ptr_some hv
      refine ⟨u', ?_, hu⟩
      rw [e1] at hr
      simp only [resSem, Sem.run_bind, e1, asAddr, Sem.run_pure, Result.andThen_ok]
      simpa [Instr.loadAt, Instr.sureAddr] using hr
    · cases h

theorem aresL_sound {P : Program} {ρ : Ren} {m : Mem} {w : World} {T : List Value} {t : Array Value} (hm : MR P ρ m w) (ht : TR ρ T t) : ∀ {l : List ResultVar} {vs : List Value}, aresL P T m l = some vs →
    ∃ vs', (l.mapM (resSem t)).run P w = .ok vs' w ∧ vs.length = vs'.length ∧ ∀ (i : Nat) (x y : Value), vs[i]? = some x → vs'[i]? = some y → VR ρ x y
  | [], vs, h => by simp [aresL] at h; subst h; exact ⟨[], by simp, rfl, fun i x y hx => by simp at hx⟩
  | r :: l, vs, h => by
    unfold aresL at h
    split at h
    · rename_i v h1
      split at h
      · rename_i vs1 h2
        cases h
        obtain ⟨v', hr1, hv⟩ := ares1_sound hm ht h1
        obtain ⟨vs', hr2, hl, hi⟩ := aresL_sound hm ht h2
        refine ⟨v' :: vs', by simp [List.mapM_cons, hr1, hr2], by simp [hl], fun i x y hx hy => ?_⟩
        cases i with
        | zero => simp at hx hy; subst hx hy; exact hv
        | succ i => simp at hx hy; exact hi i x y hx hy
      · cases h
    · cases h

theorem ares_sound {P : Program} {ρ : Ren} {m : Mem} {w : World} {fn : Func} {T : List Value} {t : Array Value} (hm : MR P ρ m w) (ht : TR ρ T t) {v : Value} (h : ares P fn T m = some v) :
    ∃ v', (results fn t).run P w = .ok v' w ∧ VR ρ v v' := by
  have key : ∀ vs, aresL P T m fn.results.toList = some vs → ∃ vs' : List Value, (results fn t).run P w = .ok (if h : vs'.toArray.size = 1 then vs'.toArray[0] else .tuple vs'.toArray) w ∧ vs.length = vs'.length ∧ ∀ (i : Nat) (x y : Value), vs[i]? = some x → vs'[i]? = some y → VR ρ x y := by
    intro vs hvs
    obtain ⟨vs', hr, hl, hi⟩ := aresL_sound hm ht hvs
    refine ⟨vs', ?_, hl, hi⟩
    have he : results fn t = ((fn.results.mapM (resSem t)) >>= fun vs => pure (if h : vs.size = 1 then vs[0] else .tuple vs)) := by
      unfold results
      congr 1
    rw [he, Array.mapM_eq_mapM_toList]
    simp [hr]
  unfold ares at h
  split at h
  · rename_i v0 h0
    cases h
    obtain ⟨vs', hr, hl, hi⟩ := key _ h0
    match vs', hl with
    | [v'], _ => exact ⟨v', by rw [hr]; rfl, hi 0 v v' rfl rfl⟩
  · rename_i vs hno hvs
    cases h
    obtain ⟨vs', hr, hl, hi⟩ := key _ hvs
    refine ⟨.tuple ⟨vs'⟩, ?_, .tuple hl hi⟩
    rw [hr]
    have : ¬ vs'.toArray.size = 1 := by
      intro h1
      simp at h1
      rw [h1] at hl
      match vs, hl with
      | [v0], _ => exact hno v0 rfl
    rw [dif_neg this]
  · cases h

/-- A function's call. -/
def abody (E : Env) (self : Self) (n : Nat) (f : FuncId) (args : List Value) (m : Mem) : Option (Value × Mem) :=
  if E.good f then match E.P.funcs[f]? with
  | some fn => match fn.body with
    | some c => match acode E self n c (args ++ List.replicate (fn.ntmps - args.length) undef) m with
      | some (.normal, T1, m1) => (ares E.P fn T1 m1).map (·, m1)
      | some (.ret, T1, m1) => (ares E.P fn T1 m1).map (·, m1)
      | _ => none
    | none => none
  | none => none
  else none

theorem abody_sound {E : Env} {self : Self} (hs : CallOK E.P (ainv E self)) (hE : EnvOK E) (n : Nat) : CallOK E.P (abody E self n) := by
  intro f args m v m1 h ρ w args' hm ht
  unfold abody at h
  split at h
  case isFalse => cases h
  rename_i hgd
  split at h
  · rename_i fn hfn
    split at h
    · rename_i c hc
      have htr : TR ρ (args ++ List.replicate (fn.ntmps - args.length) undef) (args' ++ Array.replicate (fn.ntmps - args'.size) undef) := by
        refine ⟨by simp [ht.size], fun i x y hx hy => ?_⟩
        by_cases hi : i < args.length
        · rw [List.getElem?_append_left hi] at hx
          rw [Array.getElem?_append_left (by rw [← ht.size]; exact hi)] at hy
          exact ht.at_ i x y hx hy
        · rw [List.getElem?_append_right (by omega)] at hx
          rw [Array.getElem?_append_right (by rw [← ht.size]; omega)] at hy
          rw [List.getElem?_replicate] at hx
          rw [Array.getElem?_replicate] at hy
          split at hx
          · split at hy
            · cases hx; cases hy; exact vr_undef ρ
            · cases hy
          · cases hx
      refine calls_of_wp hfn hc ?_
      have fin : ∀ T1 m2 a1 w1, a1.defers = [] → Post [] E.P ρ m w T1 m2 a1 w1 → (ares E.P fn T1 m2).map (·, m2) = some (v, m1) →
          a1.defers = [] ∧ ∃ v', (results fn a1.tmps).run E.P w1 = .ok v' w1 ∧ Ends E.P ρ m w v m1 (.returned v') w1 := by
        intro T1 m2 a1 w1 hd hp hr
        obtain ⟨h9, rfl⟩ := map_pair hr
        obtain ⟨_, ρ1, ht1, hm1, hx1⟩ := hp
        obtain ⟨v', hrun, hv⟩ := ares_sound hm1 ht1 h9
        exact ⟨hd, v', hrun, v', ρ1, rfl, hv, hm1, hx1⟩
      split at h
      · rename_i T1 m2 h2
        refine wp_mono (acode_sound hs hE n c (hE.good f fn c hgd hfn hc) _ _ _ _ _ h2 [] ρ w _ rfl hm htr) ?_
        rintro e' a1 w1 ⟨rfl, hp⟩
        exact fin T1 m2 a1 w1 hp.1 hp h
      · rename_i T1 m2 h2
        refine wp_mono (acode_sound hs hE n c (hE.good f fn c hgd hfn hc) _ _ _ _ _ h2 [] ρ w _ rfl hm htr) ?_
        rintro e' a1 w1 ⟨rfl, hp⟩
        exact fin T1 m2 a1 w1 hp.1 hp h
      · cases h
    · cases h
  · cases h

/-- A program's functions, with so much fuel. -/
def run (E : Env) : Nat → Self
  | 0 => fun _ _ _ => none
  | n + 1 => abody E (run E n) (n + 1)

theorem run_sound {E : Env} (hE : EnvOK E) : ∀ n, CallOK E.P (run E n)
  | 0 => fun f args m v m1 h => by simp [run] at h
  | n + 1 => abody_sound (ainv_sound hE.globals hE.fast (run_sound hE n)) hE (n + 1)

end
end Go.Am

/-
  The abstract machine with known facts: a run is cut into pieces, each of them proved alone (own work; nothing of a dump).
-/
set_option linter.unusedSimpArgs false
set_option linter.unusedVariables false
namespace Go.Am
noncomputable section

def eqV0 : Value → Value → Bool
  | .int k n, .int k' n' => decide (k = k') && decide (n = n')
  | .bool b, .bool b' => b == b'
  | .string s, .string s' => decide (s.data.toList = s'.data.toList)
  | _, _ => false

theorem eqV0_sound {x y : Value} (h : eqV0 x y = true) : x = y := by
  unfold eqV0 at h
  split at h
  · simp only [Bool.and_eq_true, decide_eq_true_eq] at h
    obtain ⟨rfl, rfl⟩ := h
    rfl
  · simp only [beq_iff_eq] at h
    rw [h]
  · rename_i s s'
    have h1 : s.data.toList = s'.data.toList := of_decide_eq_true h
    obtain ⟨⟨l⟩⟩ := s
    obtain ⟨⟨l'⟩⟩ := s'
    simp only at h1
    rw [h1]
  · cases h

def eqL (eq : Value → Value → Bool) : List Value → List Value → Bool
  | [], [] => true
  | x :: l, y :: l' => eq x y && eqL eq l l'
  | _, _ => false

theorem eqL_sound {eq : Value → Value → Bool} (he : ∀ x y, eq x y = true → x = y) : ∀ {l l' : List Value}, eqL eq l l' = true → l = l'
  | [], [], _ => rfl
  | x :: l, y :: l', h => by
    simp only [eqL, Bool.and_eq_true] at h
    rw [he x y h.1, eqL_sound he h.2]
  | [], _ :: _, h => by simp [eqL] at h
  | _ :: _, [], h => by simp [eqL] at h

def eqV : Value → Value → Bool
  | .agg c, .agg c' => eqL eqV0 c.toList c'.toList
  | x, y => eqV0 x y

theorem eqV_sound {x y : Value} (h : eqV x y = true) : x = y := by
  unfold eqV at h
  split at h
  · rename_i c c'
    have h1 := eqL_sound (fun _ _ => eqV0_sound) h
    obtain ⟨l⟩ := c
    obtain ⟨l'⟩ := c'
    simp only at h1
    rw [h1]
  · exact eqV0_sound h

def eqB : Blk → Blk → Bool
  | .dead, .dead => true
  | .tab e cs, .tab e' cs' => decide (e = e') && eqL eqV0 cs cs'
  | _, _ => false

def eqM : Mem → Mem → Bool
  | [], [] => true
  | x :: l, y :: l' => eqB x y && eqM l l'
  | _, _ => false

theorem eqB_sound {x y : Blk} (h : eqB x y = true) : x = y := by
  unfold eqB at h
  split at h
  · rfl
  · simp only [Bool.and_eq_true, decide_eq_true_eq] at h
    rw [h.1, eqL_sound (fun _ _ => eqV0_sound) h.2]
  · cases h

theorem eqM_sound : ∀ {l l' : Mem}, eqM l l' = true → l = l'
  | [], [], _ => rfl
  | x :: l, y :: l', h => by
    simp only [eqM, Bool.and_eq_true] at h
    rw [eqB_sound h.1, eqM_sound h.2]
  | [], _ :: _, h => by simp [eqM] at h
  | _ :: _, [], h => by simp [eqM] at h

/-- What is known: a function's answer at some arguments, over one memory. -/
structure Fact where
  g : FuncId
  args : List Value
  v : Value

/-- It is so. -/
def Fact.holds (P : Program) (M : Mem) (F : Fact) : Prop := ∀ ρ w (args' : Array Value), MR P ρ M w → TR ρ F.args args' → Calls P F.g args' w (Ends P ρ M w F.v M)

def lookF : List Fact → FuncId → List Value → Option Value
  | [], _, _ => none
  | F :: l, g, args => if F.g = g then if eqL eqV F.args args then some F.v else lookF l g args else lookF l g args

def hasF : List Fact → FuncId → Bool
  | [], _ => false
  | F :: l, g => if F.g = g then true else hasF l g

theorem lookF_sound {g : FuncId} {args : List Value} {v : Value} : ∀ {l : List Fact}, lookF l g args = some v → ∃ F, F ∈ l ∧ F.g = g ∧ F.args = args ∧ F.v = v
  | [], h => by simp [lookF] at h
  | F :: l, h => by
    unfold lookF at h
    split at h
    · rename_i hg
      split at h
      · rename_i ha
        cases h
        exact ⟨F, by simp, hg, eqL_sound (fun _ _ => eqV_sound) ha, rfl⟩
      · obtain ⟨F', h1, h2⟩ := lookF_sound h
        exact ⟨F', by simp [h1], h2⟩
    · obtain ⟨F', h1, h2⟩ := lookF_sound h
      exact ⟨F', by simp [h1], h2⟩

/-- A program's functions, with so much fuel, where that is known. -/
def runK (E : Env) (M : Mem) (K : List Fact) : Nat → Self
  | 0 => fun _ _ _ => none
  | n + 1 => fun f args m => match hasF K f with
    | true => match eqM m M with
      | true => match lookF K f args with
        | some v => some (v, m)
        | none => abody E (runK E M K n) (n + 1) f args m
      | false => abody E (runK E M K n) (n + 1) f args m
    | false => abody E (runK E M K n) (n + 1) f args m

theorem runK_sound {E : Env} (hE : EnvOK E) {M : Mem} {K : List Fact} (hK : ∀ F, F ∈ K → F.holds E.P M) : ∀ n, CallOK E.P (runK E M K n)
  | 0 => fun f args m v m1 h => by simp [runK] at h
  | n + 1 => by
    have hb := abody_sound (ainv_sound hE.globals hE.fast (runK_sound hE hK n)) hE (n + 1)
    intro f args m v m1 h
    unfold runK at h
    split at h
    · split at h
      · rename_i hm
        split at h
        · rename_i v0 hl
          cases h
          obtain ⟨F, hF, rfl, rfl, rfl⟩ := lookF_sound hl
          rw [eqM_sound hm]
          exact hK F hF
        · exact hb f args m v m1 h
      · exact hb f args m v m1 h
    · exact hb f args m v m1 h

/-- The answer, if it leads nowhere. -/
def ansIs (v : Value) : Option (Value × Mem) → Bool
  | some (u, _) => lit2 u && eqV u v
  | none => false

/-- What has been run is known. -/
theorem fact_of_run {E : Env} (hE : EnvOK E) {M : Mem} {K : List Fact} (hK : ∀ F, F ∈ K → F.holds E.P M) (n : Nat) (F : Fact) (hlen : M.length = E.G) (htab : eqM (M.map onlyTab) M = true) (hargs : F.args.all lit2 = true) (hfast : (E.fast F.g).isNone = true)
    (h : ansIs F.v (runK E M K n F.g F.args M) = true) : F.holds E.P M := by
  have hs := ainv_sound hE.globals hE.fast (runK_sound hE hK n)
  have ht : (M.take E.G).map onlyTab = M := by rw [List.take_of_length_le (by omega)]; exact eqM_sound htab
  refine hs F.g F.args M F.v M ?_
  unfold ainv
  rw [if_pos hargs, ht]
  have hf : E.fast F.g = none := by simpa using hfast
  rw [hf]
  unfold ansIs at h
  split at h
  · rename_i u m1 hr
    simp only [Bool.and_eq_true] at h
    rw [hr]
    simp only
    unfold acoll
    rw [if_pos h.1, eqV_sound h.2]
  · cases h

end
end Go.Am

/-
  The abstract machine without its static looks: what simp reckons with (own work; nothing of a dump).
-/
set_option linter.unusedSimpArgs false
set_option linter.unusedVariables false
namespace Go.Am
noncomputable section

theorem nth_zero (v : Value) (l : List Value) : nth (v :: l) 0 = v := rfl
theorem nth_succ (v : Value) (l : List Value) (t : Nat) : nth (v :: l) (t + 1) = nth l t := rfl
theorem setAt_zero (u v : Value) (l : List Value) : setAt (v :: l) u 0 = u :: l := rfl
theorem setAt_succ (u v : Value) (l : List Value) (t : Nat) : setAt (v :: l) u (t + 1) = v :: setAt l u t := rfl

def aopsN (E : Env) (self : Self) (ops : Array Oper) : List Oper → List Value → Mem → Option (List Value × Mem)
  | [], T, m => some (T, m)
  | o :: l, T, m => match agd ops T o with
    | some true => match astep E self T m o with
      | some (v, m1) => aopsN E self ops l (aput T o.dst v) m1
      | none => none
    | some false => aopsN E self ops l (aput T o.dst undef) m
    | none => none

theorem aops_eqN {E : Env} {self : Self} {ops : Array Oper} : ∀ (l : List Oper) (T : List Value) (m : Mem), l.all (fun o => okOp E.P o.op) = true → aops E self ops l T m = aopsN E self ops l T m
  | [], T, m, _ => rfl
  | o :: l, T, m, h => by
    simp only [List.all_cons, Bool.and_eq_true] at h
    rw [aops, aopsN]
    cases hg : agd ops T o with
    | none => rfl
    | some b =>
      cases b with
      | false => exact aops_eqN l _ _ h.2
      | true =>
        simp only [h.1, if_true]
        cases hs : astep E self T m o with
        | none => rfl
        | some r =>
          obtain ⟨v, m1⟩ := r
          simp only
          rw [← aops_eqN l _ _ h.2]
          cases E.strict with
          | true => exact forceV_eq v _
          | false => rfl

def adrawN (E : Env) (self : Self) (ops : Array Oper) (B : Nat) : List Oper → Nat → List Value → Mem → List (Nat × Nat) → Bool → Option (List Value × Mem)
  | [], _, T, m, _, _ => some (T, m)
  | o :: l, i, T, m, lb, ls => match agd ops T o with
    | some true => match cls E.P E.wr o with
        | 0 => match afloat E.P T o with
          | some v => adrawN E self ops B l (i + 1) (aput T o.dst v) m lb ls
          | none => none
        | 1 => match astep E self T (m.map sealed) o with
          | some (v, m1) => if earlyOk E T B m o v || !earlyB E.P E.wr ops i then if m1.length = m.length then match looseB E.P E.wr ops i with
              | true => if laterOk E T m o v then adrawN E self ops B l (i + 1) (aput T o.dst v) m (loadAt T o i ++ lb) true else none
              | false => adrawN E self ops B l (i + 1) (aput T o.dst v) m lb ls
            else none
            else none
          | none => none
        | _ => if !ls || sparesB E T (liveB E.P E.wr ops lb i) o then match astep E self T m o with
            | some (v, m1) => adrawN E self ops B l (i + 1) (aput T o.dst v) m1 lb ls
            | none => none
          else none
    | some false => adrawN E self ops B l (i + 1) (aput T o.dst undef) m lb ls
    | none => none

theorem adraw_eqN {E : Env} {self : Self} {ops : Array Oper} {B : Nat} : ∀ (l : List Oper) (i : Nat) (T : List Value) (m : Mem) (lb : List (Nat × Nat)) (ls : Bool), l.all (fun o => okOp E.P o.op) = true → adrawL E self ops B l i T m lb ls = adrawN E self ops B l i T m lb ls
  | [], _, _, _, _, _, _ => rfl
  | o :: l, i, T, m, lb, ls, h => by
    simp only [List.all_cons, Bool.and_eq_true] at h
    have ih : ∀ i T m lb ls, adrawL E self ops B l i T m lb ls = adrawN E self ops B l i T m lb ls := fun i T m lb ls => adraw_eqN l i T m lb ls h.2
    rw [adrawL, adrawN]
    simp only [h.1, if_true, ih]
    cases hs : E.strict with
    | true =>
      simp only [forceV_eq]
      rfl
    | false => rfl

/-- All operations are such as the machine takes; and all operands. -/
def codeSt (P : Program) : Code → Bool
  | .region _ ops _ => ops.toList.all fun o => okOp P o.op
  | .seq a b => codeSt P a && codeSt P b
  | .cond c a b => okOperand P c && (codeSt P a && codeSt P b)
  | .block _ c => codeSt P c
  | .loop c => codeSt P c
  | .scope c => codeSt P c
  | _ => true

def acodeN (E : Env) (self : Self) (n : Nat) : Code → List Value → Mem → CRes
  | .skip, T, m => some (.normal, T, m)
  | .label _, T, m => some (.normal, T, m)
  | .region _ ops false, T, m => match aopsN E self ops ops.toList T m with
    | some (T1, m1) => some (.normal, T1, m1)
    | none => none
  | .region id ops true, T, m => match (match E.sr id ops with | true => (match E.mkr id ops with | true => amk E self ops T m | false => asr E self ops T m) | false => adrawN E self ops m.length ops.toList 0 T m [] false) with
    | some (T1, m1) => some (.normal, T1, m1)
    | none => none
  | .seq a b, T, m => match acodeN E self n a T m with
    | some (.normal, T1, m1) => acodeN E self n b T1 m1
    | r => r
  | .cond c a b, T, m => match ev T c with
      | .bool true => acodeN E self n a T m
      | .bool false => acodeN E self n b T m
      | _ => none
  | .block id c, T, m => match acodeN E self n c T m with
    | some (.exit id', T1, m1) => if id' = id then some (.normal, T1, m1) else some (.exit id', T1, m1)
    | r => r
  | .loop c, T, m => aloop (acodeN E self n c) n T m
  | .exit id, T, m => some (.exit id, T, m)
  | .ret, T, m => some (.ret, T, m)
  | .scope c, T, m => acodeN E self n c T m
  | _, _, _ => none

theorem acode_eqN {E : Env} {self : Self} {n : Nat} : ∀ (c : Code), codeSt E.P c = true → acode E self n c = acodeN E self n c
  | .skip, _ => by funext T m; simp only [acode, acodeN]
  | .label _, _ => by funext T m; simp only [acode, acodeN]
  | .region id ops draw, h => by
    funext T m
    cases draw with
    | false => simp only [acode, acodeN]; rw [aops_eqN _ _ _ h]; try rfl
    | true => simp only [acode, acodeN, adraw2, adraw]; rw [adraw_eqN _ _ _ _ _ _ h]; try rfl
  | .seq a b, h => by
    simp only [codeSt, Bool.and_eq_true] at h
    funext T m
    simp only [acode, acodeN, acode_eqN a h.1, acode_eqN b h.2]
    try rfl
  | .cond c a b, h => by
    simp only [codeSt, Bool.and_eq_true] at h
    funext T m
    simp only [acode, acodeN, acode_eqN a h.2.1, acode_eqN b h.2.2, h.1, if_true]
    try rfl
  | .block id c, h => by
    funext T m
    simp only [acode, acodeN, acode_eqN c h]
    try rfl
  | .loop c, h => by
    funext T m
    simp only [acode, acodeN, acode_eqN c h]
    try rfl
  | .scope c, h => by
    funext T m
    simp only [acode, acodeN, acode_eqN c h]
    try rfl
  | .exit _, _ => by funext T m; simp only [acode, acodeN]
  | .ret, _ => by funext T m; simp only [acode, acodeN]
  | .rangeFunc .., _ => by funext T m; simp only [acode, acodeN]
  | .goto _, _ => by funext T m; simp only [acode, acodeN]
  | .refuse _, _ => by funext T m; simp only [acode, acodeN]

/-- How a function ends. -/
def finish (P : Program) (fn : Func) : CRes → Option (Value × Mem)
  | some (.normal, T1, m1) => (ares P fn T1 m1).map (·, m1)
  | some (.ret, T1, m1) => (ares P fn T1 m1).map (·, m1)
  | _ => none

theorem abody_eqN {E : Env} {self : Self} {n : Nat} {f : FuncId} {fn : Func} {c : Code} {args : List Value} {m : Mem} (hg : E.good f = true) (hf : E.P.funcs[f]? = some fn) (hc : fn.body = some c) (hst : codeSt E.P c = true) :
    abody E self n f args m = finish E.P fn (acodeN E self n c (args ++ List.replicate (fn.ntmps - args.length) undef) m) := by
  unfold abody
  rw [if_pos hg, hf]
  simp only [hc]
  rw [acode_eqN c hst]
  cases acodeN E self n c (args ++ List.replicate (fn.ntmps - args.length) undef) m with
  | none => rfl
  | some r =>
    obtain ⟨e, T1, m1⟩ := r
    cases e <;> rfl

theorem runK_other {E : Env} {M : Mem} {K : List Fact} {n : Nat} {f : FuncId} {args : List Value} {m : Mem} (h : hasF K f = false) : runK E M K (n + 1) f args m = abody E (runK E M K n) (n + 1) f args m := by
  simp only [runK, h]

def cellAt (m : Mem) (b o : Nat) : Option Value := match look m b with
  | some (_, _, cs) => cs[o]?
  | none => none

theorem aload_cell {P : Program} {t : TypeId} {d : TypeDesc} (hd : P.underlying t = some d) (ha : aggD d = false) (b o : Nat) (m : Mem) : aload P t (.pointer (some ⟨b, o, none⟩)) m = cellAt m b o := by
  unfold aload cellAt
  simp only [hd, ha]
  cases look m b with
  | none => rfl
  | some r => rfl

/-- An address. -/
def isAddr : Value → Bool
  | .pointer (some _) => true
  | .slice (some _) _ _ => true
  | _ => false

theorem isAddr_lit2 {v : Value} (h : isAddr v = true) : lit2 v = false := by
  unfold isAddr at h
  split at h
  · rfl
  · rfl
  · cases h

/-- The same, under another name. -/
def apureC (P : Program) (T : List Value) (o : Oper) : Option Value := apure P T o

theorem apure_convert {P : Program} {T : List Value} {d : Option Tmp} {s t ty : TypeId} {x : Operand} {pos : String} {af : Array Edge} {g : Option (Nat × Bool)} :
    apure P T { dst := d, op := .convert s t x, type := ty, pos := pos, after := af, guard := g } = match isAddr (ev T x) with
      | true => none
      | false => apureC P T { dst := d, op := .convert s t x, type := ty, pos := pos, after := af, guard := g } := by
  cases h : isAddr (ev T x) with
  | false => rfl
  | true =>
    unfold apure
    rw [if_neg]
    simp [Op.operands, isAddr_lit2 h]

theorem apure_binOp {P : Program} {T : List Value} {d : Option Tmp} {s t ty : TypeId} {b : BinOp} {x y : Operand} {pos : String} {af : Array Edge} {g : Option (Nat × Bool)} :
    apure P T { dst := d, op := .binOp b s x y t, type := ty, pos := pos, after := af, guard := g } = match isAddr (ev T x) with
      | true => none
      | false => apureC P T { dst := d, op := .binOp b s x y t, type := ty, pos := pos, after := af, guard := g } := by
  cases h : isAddr (ev T x) with
  | false => rfl
  | true =>
    unfold apure
    rw [if_neg]
    simp [Op.operands, isAddr_lit2 h]

theorem lookRow {m : Mem} {b : Nat} {ro : Bool} {e : TypeId} {cs : List Value} (h : m[b]? = some (.row ro e cs)) : look m b = some (ro, e, cs) := by
  unfold look
  rw [h]
  rfl

theorem cellAt_row {m : Mem} {b : Nat} {ro : Bool} {e : TypeId} {cs : List Value} (h : m[b]? = some (.row ro e cs)) (o : Nat) : cellAt m b o = cs[o]? := by
  unfold cellAt look
  rw [h]
  rfl

theorem aeq_same {P : Program} {t e : TypeId} {i : TypeInfo} (ht : P.underlying t = some (.pointer e)) (hi : P.info? e = some i) (hs : i.size ≠ 0) (a : Addr) : aeq P t (.pointer (some a)) (.pointer (some a)) = some true := by
  unfold aeq
  simp only [ht, hi]
  rw [if_pos ⟨hs, trivial⟩]

theorem aptr_to {P : Program} {s t e : TypeId} {i : TypeInfo} (h1 : P.underlying s = some (.pointer t)) (h2 : P.underlying e = some .unsafePointer) (hi : P.info? t = some i) (hs : i.size ≠ 0) {m : Mem} {b : Nat} {ro : Bool} {e' : TypeId} {cs : List Value}
    (h : m[b]? = some (.row ro e' cs)) (hc : 0 < cs.length) : aptr P s e (.pointer (some ⟨b, 0, none⟩)) m = some (.pointer (some ⟨b, 0, none⟩)) := by
  have hl9 := lookRow h
  unfold aptr
  simp only [hl9, h1, h2, hi]
  rw [if_pos ⟨hs, hc⟩]

theorem aptr_from {P : Program} {s t u : TypeId} {i : TypeInfo} (h1 : P.underlying s = some .unsafePointer) (h2 : P.underlying t = some (.pointer u)) (hi : P.info? u = some i) (hs : i.size ≠ 0) {m : Mem} {b : Nat} {ro : Bool} {e : TypeId} {cs : List Value}
    (h : m[b]? = some (.row ro e cs)) (hl : liesAt P P.depth e (cs.length / P.cellsOf e) 0 u 1 = true) : aptr P s t (.pointer (some ⟨b, 0, none⟩)) m = some (.pointer (some ⟨b, 0, none⟩)) := by
  have hl9 := lookRow h
  unfold aptr
  simp only [hl9, h1, h2, hi]
  rw [if_pos ⟨hs, hl⟩]

theorem astore_cell {P : Program} {t : TypeId} {i : TypeInfo} (hi : P.info? t = some i) (hs : i.size = 1) {m : Mem} {b o : Nat} {e : TypeId} {cs : List Value} (h : m[b]? = some (.row false e cs)) (ho : o < cs.length) {u : Value} (hu : vcells u = some [u]) :
    astore P t (.pointer (some ⟨b, o, none⟩)) u m = some (m.set b (.row false e (cs.set o u))) := by
  unfold astore
  simp only [h, hu, hi]
  rw [if_pos ⟨by rw [hs]; rfl, by simp; omega⟩]
  rfl

end
end Go.Am
