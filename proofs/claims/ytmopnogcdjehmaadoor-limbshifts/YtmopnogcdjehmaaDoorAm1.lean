/-
  A small abstract machine over the model's own code (own work; imports nothing of a dump): values with abstract block numbers, memory as a list of rows,
  one operation at a time. This text: values, the relation to the model's worlds, and what becomes of them.
-/
import Derived.WalkKit
set_option linter.unusedSimpArgs false
set_option linter.unusedVariables false
namespace Go.Am

/-- What an abstract block is laid at: the block's number in the world, how many cells it has, how many cells an element of its has. -/
structure At where
  r : Nat
  n : Nat
  s : Nat

abbrev Ren := Nat → Option At

/-- One cell without an address in it. -/
def lit0 : Value → Bool
  | .bool _ => true
  | .int _ _ => true
  | .float _ _ => true
  | .complex _ _ _ => true
  | .string _ => true
  | .pointer none => true
  | .slice none _ _ => true
  | .map none => true
  | .chan none => true
  | .nilFunc => true
  | .nilIface => true
  | .func _ a b => a.toList.isEmpty && b.toList.isEmpty
  | _ => false

/-- One cell, or a row of such. -/
def lit1 : Value → Bool
  | .agg cs => cs.toList.all lit0
  | v => lit0 v

/-- The same, tuples of them too. -/
def lit2 : Value → Bool
  | .tuple vs => vs.toList.all lit1
  | .iface _ v => lit1 v
  | v => lit1 v

/-- A value of which nothing is said. -/
def junk : Value := .chan (some 0)

inductive VR (ρ : Ren) : Value → Value → Prop
  | lit {v : Value} : lit2 v = true → VR ρ v v
  | junk {v : Value} : VR ρ junk v
  | ptr {b o : Nat} {x : At} : ρ b = some x → VR ρ (.pointer (some ⟨b, o, none⟩)) (.pointer (some ⟨x.r, o, none⟩))
  | slice {b o n c c' : Nat} {x : At} : ρ b = some x → (c' = c ∨ (c ≤ c' ∧ o + c' * x.s ≤ x.n)) → VR ρ (.slice (some ⟨b, o, none⟩) n c) (.slice (some ⟨x.r, o, none⟩) n c')
  | agg {l l' : List Value} : l.length = l'.length → (∀ (i : Nat) (x y : Value), l[i]? = some x → l'[i]? = some y → VR ρ x y) → VR ρ (.agg ⟨l⟩) (.agg ⟨l'⟩)
  | tuple {l l' : List Value} : l.length = l'.length → (∀ (i : Nat) (x y : Value), l[i]? = some x → l'[i]? = some y → VR ρ x y) → VR ρ (.tuple ⟨l⟩) (.tuple ⟨l'⟩)

def Ren.le (ρ ρ' : Ren) : Prop := ∀ b x, ρ b = some x → ρ' b = some x

theorem Ren.le_refl (ρ : Ren) : ρ.le ρ := fun _ _ h => h
theorem Ren.le_trans {a b c : Ren} (h : a.le b) (k : b.le c) : a.le c := fun _ _ e => k _ _ (h _ _ e)

theorem VR.mono {ρ ρ' : Ren} (hl : ρ.le ρ') {v v' : Value} (h : VR ρ v v') : VR ρ' v v' := by
  induction h with
  | lit h => exact .lit h
  | junk => exact .junk
  | ptr h => exact .ptr (hl _ _ h)
  | slice h hc => exact .slice (hl _ _ h) hc
  | agg hn _ ih => exact .agg hn ih
  | tuple hn _ ih => exact .tuple hn ih

theorem lit2_of_lit1 {v : Value} (h : lit1 v = true) : lit2 v = true := by
  cases v <;> simp_all [lit2, lit1, lit0]
theorem lit1_of_lit0 {v : Value} (h : lit0 v = true) : lit1 v = true := by
  cases v <;> simp_all [lit1, lit0]

/-- A value without addresses is itself. -/
theorem VR.eq_of_lit0 {ρ : Ren} {v v' : Value} (h : VR ρ v v') (hl : lit0 v = true) : v' = v := by
  cases h with
  | lit _ => rfl
  | junk => simp [Am.junk, lit0] at hl
  | ptr _ => simp [lit0] at hl
  | slice _ _ => simp [lit0] at hl
  | agg _ _ => simp [lit0] at hl
  | tuple _ _ => simp [lit0] at hl

theorem list_eq_of_vr {ρ : Ren} {l l' : List Value} (hn : l.length = l'.length) (h : ∀ (i : Nat) (x y : Value), l[i]? = some x → l'[i]? = some y → VR ρ x y)
    {p : Value → Bool} (hp : ∀ x y, p x = true → VR ρ x y → y = x) (hl : l.all p = true) : l' = l := by
  apply List.ext_getElem?
  intro i
  by_cases hi : i < l.length
  · have h1 : l[i]? = some l[i] := by simp [hi]
    have hi' : i < l'.length := by omega
    have h2 : l'[i]? = some l'[i] := by simp [hi']
    rw [h1, h2, hp _ _ (by simpa using (List.all_eq_true.1 hl) l[i] (by simp)) (h i _ _ h1 h2)]
  · rw [List.getElem?_eq_none (by omega), List.getElem?_eq_none (by omega)]

theorem VR.eq_of_lit1 {ρ : Ren} {v v' : Value} (h : VR ρ v v') (hl : lit1 v = true) : v' = v := by
  cases h with
  | lit _ => rfl
  | junk => simp [Am.junk, lit1, lit0] at hl
  | ptr _ => simp [lit1, lit0] at hl
  | slice _ _ => simp [lit1, lit0] at hl
  | agg hn hx =>
    simp only [lit1] at hl
    rw [list_eq_of_vr hn hx (fun x y hx hv => hv.eq_of_lit0 hx) hl]
  | tuple _ _ => simp [lit1, lit0] at hl

theorem VR.eq_of_lit2 {ρ : Ren} {v v' : Value} (h : VR ρ v v') (hl : lit2 v = true) : v' = v := by
  cases h with
  | lit _ => rfl
  | junk => simp [Am.junk, lit2, lit1, lit0] at hl
  | ptr _ => simp [lit2, lit1, lit0] at hl
  | slice _ _ => simp [lit2, lit1, lit0] at hl
  | agg hn hx =>
    simp only [lit2, lit1] at hl
    rw [list_eq_of_vr hn hx (fun x y hx hv => hv.eq_of_lit0 hx) hl]
  | tuple hn hx =>
    simp only [lit2] at hl
    rw [list_eq_of_vr hn hx (fun x y hx hv => hv.eq_of_lit1 hx) hl]

/-- A block of the abstract memory. -/
inductive Blk where
  | dead
  | row (ro : Bool) (elem : TypeId) (cs : List Value)
  | tab (elem : TypeId) (cs : List Value)

abbrev Mem := List Blk

/-- What a block holds: whether it may only be read, its element's type, its cells. -/
def Blk.cells? : Blk → Option (Bool × TypeId × List Value)
  | .dead => none
  | .row ro e cs => some (ro, e, cs)
  | .tab e cs => some (true, e, cs)

def look (m : Mem) (k : Nat) : Option (Bool × TypeId × List Value) := match m[k]? with
  | some b => b.cells?
  | none => none

theorem look_row {m : Mem} {k : Nat} {ro : Bool} {e : TypeId} {cs : List Value} (h : m[k]? = some (.row ro e cs)) : look m k = some (ro, e, cs) := by simp [look, h, Blk.cells?]

theorem row_of_look {m : Mem} {k : Nat} {e : TypeId} {cs : List Value} (h : look m k = some (false, e, cs)) : m[k]? = some (.row false e cs) := by
  unfold look at h
  split at h
  · rename_i b hb
    cases b <;> simp [Blk.cells?] at h
    obtain ⟨rfl, rfl, rfl⟩ := h
    exact hb
  · cases h

/-- No cell of a row is frozen. -/
def Loose (fr : Nat × Nat) (n : Nat) : Prop := ∀ i, i < n → ¬ (fr.1 ≤ i ∧ i < fr.2)

/-- The abstract memory and the world. -/
structure MR (P : Program) (ρ : Ren) (m : Mem) (w : World) : Prop where
  dom : ∀ k, m.length ≤ k → ρ k = none
  bnd : ∀ k x, ρ k = some x → x.r < w.heap.size
  glob : ∀ g, g < P.globals.size → ∃ x, ρ g = some x ∧ x.r = g
  row : ∀ k ro e cs, look m k = some (ro, e, cs) → ∃ x c fr, ρ k = some x ∧ w.heap[x.r]? = some (.cells c e fr) ∧ c.size = x.n ∧ cs.length ≤ c.size ∧
    (∀ (i : Nat) (u : Value), cs[i]? = some u → ∃ v, c[i]? = some v ∧ VR ρ u v) ∧ (ro = false → Loose fr c.size) ∧ ((P.info? e).map (·.size) = some x.s)
  inj : ∀ k e cs k' ro' e' cs' x x', m[k]? = some (.row false e cs) → look m k' = some (ro', e', cs') → ρ k = some x → ρ k' = some x' → x.r = x'.r → k = k'
  tab : ∀ (k : Nat) (e : TypeId) (cs : List Value), m[k]? = some (Blk.tab e cs) → ∀ v ∈ cs, lit0 v = true

/-- What a step of the abstract machine leaves alone in the world. -/
structure Ext (ρ : Ren) (m : Mem) (w : World) (ρ' : Ren) (m' : Mem) (w' : World) : Prop where
  le : ρ.le ρ'
  same : ∀ k, k < m.length → ρ' k = ρ k
  len : m.length ≤ m'.length
  fresh : ∀ k x, m.length ≤ k → ρ' k = some x → w.heap.size ≤ x.r ∨ ∃ k0 e0 cs0 x0, m[k0]? = some (.row false e0 cs0) ∧ ρ k0 = some x0 ∧ x0.r = x.r
  os : w'.os = w.os
  tape : w'.tape = w.tape
  output : w'.output = w.output
  size : w.heap.size ≤ w'.heap.size
  kept : ∀ r, r < w.heap.size → (∀ k e cs x, m[k]? = some (.row false e cs) → ρ k = some x → x.r ≠ r) → w'.heap[r]? = w.heap[r]?
  own : ∀ k e cs x, m'[k]? = some (.row false e cs) → ρ' k = some x → w.heap.size ≤ x.r ∨ ∃ k0 e0 cs0 x0, m[k0]? = some (.row false e0 cs0) ∧ ρ k0 = some x0 ∧ x0.r = x.r

theorem Ext.refl' {ρ : Ren} {m : Mem} (w : World) (hd : ∀ k, m.length ≤ k → ρ k = none) : Ext ρ m w ρ m w :=
  ⟨Ren.le_refl _, fun _ _ => rfl, Nat.le_refl _, fun k x hk hx => by (rw [hd k hk] at hx; cases hx), rfl, rfl, rfl, Nat.le_refl _, fun _ _ _ => rfl, fun k e cs x h hx => .inr ⟨k, e, cs, x, h, hx, rfl⟩⟩

theorem Ext.trans {ρ ρ1 ρ2 : Ren} {m m1 m2 : Mem} {w w1 w2 : World} (h : Ext ρ m w ρ1 m1 w1) (k : Ext ρ1 m1 w1 ρ2 m2 w2) : Ext ρ m w ρ2 m2 w2 := by
  have hf : ∀ k2 x, m.length ≤ k2 → ρ2 k2 = some x → w.heap.size ≤ x.r ∨ ∃ k0 e0 cs0 x0, m[k0]? = some (.row false e0 cs0) ∧ ρ k0 = some x0 ∧ x0.r = x.r := by
    intro k2 x hk hx
    by_cases h2 : k2 < m1.length
    · rw [k.same k2 h2] at hx
      exact h.fresh k2 x hk hx
    · rcases k.fresh k2 x (by omega) hx with h1 | ⟨k1, e1, cs1, x1, hm1, hx1, he1⟩
      · left; exact Nat.le_trans h.size h1
      · rcases h.own k1 e1 cs1 x1 hm1 hx1 with h3 | ⟨k0, e0, cs0, x0, hm0, hx0, he0⟩
        · left; omega
        · right; exact ⟨k0, e0, cs0, x0, hm0, hx0, by omega⟩
  refine ⟨Ren.le_trans h.le k.le, fun k2 h2 => by rw [k.same k2 (Nat.lt_of_lt_of_le h2 h.len), h.same k2 h2], Nat.le_trans h.len k.len, hf, k.os.trans h.os, k.tape.trans h.tape, k.output.trans h.output, Nat.le_trans h.size k.size, ?_, ?_⟩
  · intro r hr hno
    rw [k.kept r (Nat.lt_of_lt_of_le hr h.size) ?_]
    · exact h.kept r hr hno
    · intro k1 e cs x hm hx e1
      rcases h.own k1 e cs x hm hx with h1 | ⟨k0, e0, cs0, x0, hm0, hx0, he⟩
      · omega
      · exact hno k0 e0 cs0 x0 hm0 hx0 (by omega)
  · intro k2 e cs x hm hx
    rcases k.own k2 e cs x hm hx with h1 | ⟨k1, e1, cs1, x1, hm1, hx1, he1⟩
    · left; exact Nat.le_trans h.size h1
    · rcases h.own k1 e1 cs1 x1 hm1 hx1 with h2 | ⟨k0, e0, cs0, x0, hm0, hx0, he0⟩
      · left; omega
      · right; exact ⟨k0, e0, cs0, x0, hm0, hx0, by omega⟩

/-- A draw turns nothing. -/
theorem MR.drawn {P : Program} {ρ : Ren} {m : Mem} {w : World} (h : MR P ρ m w) (n : Nat) : MR P ρ m { w with drawn := n } := ⟨h.dom, h.bnd, h.glob, h.row, h.inj, h.tab⟩
theorem Ext.drawn {ρ : Ren} {m : Mem} {w : World} {ρ' : Ren} {m' : Mem} {w' : World} (h : Ext ρ m w ρ' m' w') (n : Nat) : Ext ρ m w ρ' m' { w' with drawn := n } :=
  ⟨h.le, h.same, h.len, h.fresh, h.os, h.tape, h.output, h.size, h.kept, h.own⟩

/-- A new block, at the end of the memory and of the heap. -/
def Ren.put (ρ : Ren) (k : Nat) (x : At) : Ren := fun b => if b = k then some x else ρ b

theorem Ren.le_put {ρ : Ren} {k : Nat} {x : At} (h : ρ k = none) : ρ.le (ρ.put k x) := by
  intro b y hb
  unfold Ren.put
  split
  · subst_vars; rw [h] at hb; cases hb
  · exact hb

theorem MR.alloc {P : Program} {ρ : Ren} {m : Mem} {w : World} (h : MR P ρ m w) {e : TypeId} {cs : List Value} {c : Array Value} {s : Nat} {ro : Bool}
    (fr : Nat × Nat) (hfr : ro = false → Loose fr c.size) (hs : (P.info? e).map (·.size) = some s) (hlen : cs.length ≤ c.size)
    (hc : ∀ (i : Nat) (u : Value), cs[i]? = some u → ∃ v, c[i]? = some v ∧ VR ρ u v) :
    MR P (ρ.put m.length ⟨w.heap.size, c.size, s⟩) (m ++ [.row ro e cs]) (w.alloc (.cells c e fr)) ∧
    Ext ρ m w (ρ.put m.length ⟨w.heap.size, c.size, s⟩) (m ++ [.row ro e cs]) (w.alloc (.cells c e fr)) := by
  have hle : ρ.le (ρ.put m.length ⟨w.heap.size, c.size, s⟩) := Ren.le_put (h.dom _ (Nat.le_refl _))
  have hnew : (w.alloc (.cells c e fr)).heap[w.heap.size]? = some (.cells c e fr) := heap_alloc_new _ _
  have hold' : ∀ i, i < w.heap.size → (w.alloc (.cells c e fr)).heap[i]? = w.heap[i]? := fun i hi => Go.RowKit.Below.heap_alloc _ _ _ hi
  have hcase : ∀ k b, (m ++ [Blk.row ro e cs])[k]? = some b → (k < m.length ∧ m[k]? = some b) ∨ (k = m.length ∧ b = .row ro e cs) := by
    intro k b hb
    rcases Nat.lt_trichotomy k m.length with hk | hk | hk
    · left; rw [List.getElem?_append_left hk] at hb; exact ⟨hk, hb⟩
    · right; subst hk; simp at hb; exact ⟨rfl, hb.symm⟩
    · rw [List.getElem?_append_right (by omega), List.getElem?_eq_none (by simp; omega)] at hb; cases hb
  have hlook : ∀ k t, look (m ++ [Blk.row ro e cs]) k = some t → (k < m.length ∧ look m k = some t) ∨ (k = m.length ∧ t = (ro, e, cs)) := by
    intro k t ht
    unfold look at ht
    split at ht
    · rename_i b hb
      rcases hcase k b hb with ⟨hk, hb⟩ | ⟨hk, rfl⟩
      · left; exact ⟨hk, by simp [look, hb, ht]⟩
      · right; simp [Blk.cells?] at ht; exact ⟨hk, ht.symm⟩
    · cases ht
  have hput : ∀ k, k < m.length → (ρ.put m.length ⟨w.heap.size, c.size, s⟩) k = ρ k := by
    intro k hk; unfold Ren.put; rw [if_neg (by omega)]
  have hputn : (ρ.put m.length ⟨w.heap.size, c.size, s⟩) m.length = some ⟨w.heap.size, c.size, s⟩ := by simp [Ren.put]
  refine ⟨⟨?_, ?_, fun g hg => (h.glob g hg).imp fun x hx => ⟨hle _ _ hx.1, hx.2⟩, ?_, ?_, ?_⟩, ⟨hle, hput, by simp, fun k x hk hx => by (unfold Ren.put at hx; split at hx; (cases hx; left; exact Nat.le_refl _); (rw [h.dom k hk] at hx; cases hx)), rfl, rfl, rfl, by show w.heap.size ≤ (w.heap.push _).size; simp, fun r hr _ => hold' r hr, ?_⟩⟩
  · intro k hk
    simp at hk
    unfold Ren.put
    rw [if_neg (by omega)]
    exact h.dom k (by omega)
  · intro k x hx
    have hsz : (w.alloc (.cells c e fr)).heap.size = w.heap.size + 1 := by show (w.heap.push _).size = _; simp
    unfold Ren.put at hx
    split at hx
    · cases hx; simp only [hsz]; omega
    · have := h.bnd _ _ hx; omega
  · intro k ro' e' cs' hb
    rcases hlook k _ hb with ⟨hk, hb⟩ | ⟨rfl, hb2⟩
    · obtain ⟨x, c', fr', hx, hw, hn, hl, hi, hf, hz⟩ := h.row k ro' e' cs' hb
      refine ⟨x, c', fr', hle _ _ hx, ?_, hn, hl, fun i u hu => ?_, hf, hz⟩
      · rw [hold' _ (h.bnd _ _ hx)]; exact hw
      · obtain ⟨v, hv, hr⟩ := hi i u hu
        exact ⟨v, hv, hr.mono hle⟩
    · cases hb2
      exact ⟨_, c, fr, hputn, hnew, rfl, hlen, fun i u hu => by obtain ⟨v, hv, hr⟩ := hc i u hu; exact ⟨v, hv, hr.mono hle⟩, hfr, hs⟩
  · intro k e1 cs1 k' ro' e' cs' x x' hb hb' hx hx' hr
    rcases hcase k _ hb with ⟨hk, hb⟩ | ⟨rfl, hb⟩
    · rcases hlook k' _ hb' with ⟨hk', hb'⟩ | ⟨rfl, hb'⟩
      · rw [hput k hk] at hx
        rw [hput k' hk'] at hx'
        exact h.inj k e1 cs1 k' ro' e' cs' x x' hb hb' hx hx' hr
      · rw [hput k hk] at hx
        rw [hputn] at hx'
        cases hx'
        have := h.bnd _ _ hx
        simp at hr; omega
    · rcases hlook k' _ hb' with ⟨hk', hb'⟩ | ⟨rfl, hb'⟩
      · rw [hput k' hk'] at hx'
        rw [hputn] at hx
        cases hx
        have := h.bnd _ _ hx'
        simp at hr; omega
      · rfl
  · intro k e1 cs1 hb
    rcases hcase k _ hb with ⟨hk, hb⟩ | ⟨_, hb⟩
    · exact h.tab k e1 cs1 hb
    · cases hb
  · intro k e1 cs1 x hb hx
    rcases hcase k _ hb with ⟨hk, hb⟩ | ⟨rfl, hb⟩
    · rw [hput k hk] at hx
      right; exact ⟨k, e1, cs1, x, hb, hx, rfl⟩
    · rw [hputn] at hx
      cases hx
      left; exact Nat.le_refl _

end Go.Am
