/-
  The abstract machine: slices that are made, appended to, copied; texts and bytes (own work; nothing of a dump).
-/
import Derived.Test.YtmopnogcdjehmaaDoorAm6
set_option linter.unusedSimpArgs false
set_option linter.unusedVariables false
namespace Go.Am
noncomputable section

/-- A block is let go. -/
theorem MR.kill {P : Program} {ρ : Ren} {m : Mem} {w : World} (h : MR P ρ m w) (b : Nat) : MR P ρ (m.set b .dead) w ∧ Ext ρ m w ρ (m.set b .dead) w := by
  have hcase : ∀ j x, (m.set b Blk.dead)[j]? = some x → (j ≠ b ∧ m[j]? = some x) ∨ x = .dead := by
    intro j x hx
    rw [List.getElem?_set] at hx
    by_cases hj : b = j
    · subst hj
      simp only [if_true] at hx
      split at hx
      · right; exact (Option.some.inj hx).symm
      · cases hx
    · simp only [hj, if_false] at hx
      left; exact ⟨fun e => hj e.symm, hx⟩
  have hlook : ∀ j q, look (m.set b Blk.dead) j = some q → look m j = some q := by
    intro j q hq
    unfold look at hq
    split at hq
    · rename_i x hx
      rcases hcase j x hx with ⟨_, hb⟩ | rfl
      · simp [look, hb, hq]
      · simp [Blk.cells?] at hq
    · cases hq
  have hrow : ∀ (j : Nat) (e : TypeId) (cs : List Value), (m.set b Blk.dead)[j]? = some (Blk.row false e cs) → m[j]? = some (Blk.row false e cs) := by
    intro j e cs hj
    rcases hcase j _ hj with ⟨_, hb⟩ | hb
    · exact hb
    · cases hb
  refine ⟨⟨fun k hk => h.dom k (by simpa using hk), h.bnd, h.glob, fun k ro e cs hk => h.row k ro e cs (hlook k _ hk), fun k e cs k' ro' e' cs' x x' hk hk' => h.inj k e cs k' ro' e' cs' x x' (hrow _ _ _ hk) (hlook _ _ hk'), ?_⟩, ?_⟩
  · intro k e cs hk
    rcases hcase k _ hk with ⟨_, hb⟩ | hb
    · exact h.tab k e cs hb
    · cases hb
  · exact ⟨Ren.le_refl _, fun _ _ => rfl, by simp, fun k x hk hx => by (rw [h.dom k hk] at hx; cases hx), rfl, rfl, rfl, Nat.le_refl _, fun _ _ _ => rfl,
      fun k e cs x hk hx => .inr ⟨k, e, cs, x, hrow _ _ _ hk, hx, rfl⟩⟩

/-- A row goes on under a new number, at the place where it was. -/
theorem MR.move {P : Program} {ρ : Ren} {m : Mem} {w w' : World} (h : MR P ρ m w) {b : Nat} {e : TypeId} {cs cs' : List Value} {x : At} {c c' : Array Value} {fr : Nat × Nat}
    (hb : m[b]? = some (.row false e cs)) (hx : ρ b = some x) (hw : w.heap[x.r]? = some (.cells c e fr)) (hu : Upd w w' x.r (.cells c' e fr)) (hsz : c'.size = c.size)
    (hlen : cs'.length ≤ c'.size) (hc : ∀ (i : Nat) (u : Value), cs'[i]? = some u → ∃ v, c'[i]? = some v ∧ VR ρ u v) :
    MR P (ρ.put m.length x) (m.set b .dead ++ [.row false e cs']) w' ∧ Ext ρ m w (ρ.put m.length x) (m.set b .dead ++ [.row false e cs']) w' := by
  have hle : ρ.le (ρ.put m.length x) := Ren.le_put (h.dom _ (Nat.le_refl _))
  have hput : ∀ k, k < m.length → (ρ.put m.length x) k = ρ k := by
    intro k hk; unfold Ren.put; rw [if_neg (by omega)]
  have hputn : (ρ.put m.length x) m.length = some x := by simp [Ren.put]
  have hcase : ∀ (j : Nat) (y : Blk), (m.set b Blk.dead ++ [Blk.row false e cs'])[j]? = some y → (j < m.length ∧ j ≠ b ∧ m[j]? = some y) ∨ y = .dead ∨ (j = m.length ∧ y = .row false e cs') := by
    intro j y hy
    rcases Nat.lt_trichotomy j m.length with hj | hj | hj
    · rw [List.getElem?_append_left (by simpa using hj), List.getElem?_set] at hy
      by_cases hjb : b = j
      · subst hjb
        simp only [if_true] at hy
        split at hy
        · right; left; exact (Option.some.inj hy).symm
        · rename_i hno; exact absurd hj hno
      · simp only [hjb, if_false] at hy
        left; exact ⟨hj, fun e => hjb e.symm, hy⟩
    · right; right
      rw [List.getElem?_append_right (by simp; omega)] at hy
      simp [hj] at hy
      exact ⟨hj, hy.symm⟩
    · rw [List.getElem?_append_right (by simp; omega), List.getElem?_eq_none (by simp; omega)] at hy; cases hy
  have hlook : ∀ j q, look (m.set b Blk.dead ++ [Blk.row false e cs']) j = some q → (j < m.length ∧ j ≠ b ∧ look m j = some q) ∨ (j = m.length ∧ q = (false, e, cs')) := by
    intro j q hq
    unfold look at hq
    split at hq
    · rename_i y hy
      rcases hcase j y hy with ⟨h1, h2, h3⟩ | rfl | ⟨h1, rfl⟩
      · left; exact ⟨h1, h2, by simp [look, h3, hq]⟩
      · simp [Blk.cells?] at hq
      · right; simp [Blk.cells?] at hq; exact ⟨h1, hq.symm⟩
    · cases hq
  obtain ⟨x0, c0, fr0, hx0, hw0, hn0, hl0, hi0, hf0, hs0⟩ := h.row b false e cs (look_row hb)
  rw [hx] at hx0; cases hx0
  rw [hw] at hw0; cases hw0
  have hblt : b < m.length := (List.getElem?_eq_some_iff.1 hb).1
  have hother : ∀ k ro e1 cs1 y, k ≠ b → look m k = some (ro, e1, cs1) → ρ k = some y → y.r ≠ x.r := by
    intro k ro e1 cs1 y hk hl hy e2
    exact hk (h.inj b e cs k ro e1 cs1 x y hb hl hx hy e2.symm).symm
  refine ⟨⟨?_, ?_, fun g hg => (h.glob g hg).imp fun y hy => ⟨hle _ _ hy.1, hy.2⟩, ?_, ?_, ?_⟩, ⟨hle, hput, by simp, ?_, hu.os, hu.tape, hu.output, by rw [hu.size]; exact Nat.le_refl _, ?_, ?_⟩⟩
  · intro k hk
    simp at hk
    unfold Ren.put
    rw [if_neg (by omega)]
    exact h.dom k (by omega)
  · intro k y hy
    rw [hu.size]
    unfold Ren.put at hy
    split at hy
    · cases hy; exact h.bnd b x hx
    · exact h.bnd k y hy
  · intro k ro' e' cs1 hk
    rcases hlook k _ hk with ⟨h1, h2, h3⟩ | ⟨h1, h3⟩
    · obtain ⟨y, c1, fr1, hy, hw1, hn1, hl1, hi1, hf1, hs1⟩ := h.row k ro' e' cs1 h3
      exact ⟨y, c1, fr1, hle _ _ hy, by rw [hu.other _ (hother k _ _ _ y h2 h3 hy)]; exact hw1, hn1, hl1, fun i u hu' => (hi1 i u hu').imp fun z hz => ⟨hz.1, hz.2.mono hle⟩, hf1, hs1⟩
    · cases h3
      subst h1
      exact ⟨x, c', fr, hputn, hu.same, by rw [hsz]; exact hn0, hlen, fun i u hu' => (hc i u hu').imp fun z hz => ⟨hz.1, hz.2.mono hle⟩, fun hh => by rw [hsz]; exact hf0 hh, hs0⟩
  · intro k e1 cs1 k' ro' e' cs2 y y' hk hk' hy hy' hr
    rcases hlook k _ (look_row hk) with ⟨h1, h2, h3⟩ | ⟨h1, _⟩
    · rw [hput k h1] at hy
      rcases hlook k' _ hk' with ⟨h4, h5, h6⟩ | ⟨h4, _⟩
      · rw [hput k' h4] at hy'
        exact h.inj k e1 cs1 k' ro' e' cs2 y y' (row_of_look h3) h6 hy hy' hr
      · subst h4
        rw [hputn] at hy'; cases hy'
        exact absurd hr (hother k _ _ _ y h2 h3 hy)
    · subst h1
      rw [hputn] at hy; cases hy
      rcases hlook k' _ hk' with ⟨h4, h5, h6⟩ | ⟨h4, _⟩
      · rw [hput k' h4] at hy'
        exact absurd hr.symm (hother k' _ _ _ y' h5 h6 hy')
      · exact h4.symm
  · intro k e1 cs1 hk
    rcases hcase k _ hk with ⟨_, _, h3⟩ | h3 | ⟨_, h3⟩
    · exact h.tab k e1 cs1 h3
    · cases h3
    · cases h3
  · intro k y hk hy
    unfold Ren.put at hy
    split at hy
    · cases hy; right; exact ⟨b, e, cs, x, hb, hx, rfl⟩
    · rw [h.dom k hk] at hy; cases hy
  · intro r hr hno
    exact hu.other r fun e1 => hno b e cs x hb hx e1.symm
  · intro k e1 cs1 y hk hy
    rcases hcase k _ hk with ⟨h1, h2, h3⟩ | h3 | ⟨h1, h3⟩
    · rw [hput k h1] at hy
      right; exact ⟨k, e1, cs1, y, h3, hy, rfl⟩
    · cases h3
    · subst h1
      rw [hputn] at hy; cases hy
      right; exact ⟨b, e, cs, x, hb, hx, rfl⟩

/-- What is appended, or copied: how many elements, and their cells. -/
def asrc (m : Mem) (size : Nat) (v : Value) : Option (Nat × List Value) :=
  match v with
  | .slice (some ⟨b, o, none⟩) n _ => match look m b with
    | some (_, _, cs) => if o + n * size ≤ cs.length then some (n, (cs.drop o).take (n * size)) else none
    | none => none
  | .slice none n _ => if n = 0 then some (0, []) else none
  | .string s => if size = 1 then some (s.data.toList.length, s.data.toList.map fun b => .int .u8 (b.toNat : Int)) else none
  | _ => none

/-- The first k elements of it. -/
theorem asrc_sound {P : Program} {ρ : Ren} {m : Mem} {w : World} (hm : MR P ρ m w) {size n k : Nat} {v v' : Value} {l : List Value} (hv : VR ρ v v') (h : asrc m size v = some (n, l)) (hk : k ≤ n) :
    (Builtin.lenOf v').run P w = .ok n w ∧ l.length = n * size ∧ ∃ l' : List Value, (∀ d, (Builtin.firstCells size k v').run P { w with drawn := d } = .ok l'.toArray { w with drawn := d }) ∧ l'.length = k * size ∧
      (∀ (i : Nat) (x y : Value), l[i]? = some x → l'[i]? = some y → VR ρ x y) := by
  unfold asrc at h
  split at h
  · rename_i b o n0 c
    split at h
    · rename_i ro e cs hl
      split at h
      · rename_i hle
        cases h
        obtain ⟨x, c', hx, rfl, _⟩ := vr_slice_inv hv
        obtain ⟨x', cc, fr, hx', hw, hn, hlen, hi, _, _⟩ := hm.row b ro e cs hl
        rw [hx] at hx'; cases hx'
        have hks : k * size ≤ n * size := Nat.mul_le_mul_right _ hk
        refine ⟨rfl, by simp; omega, (cc.toList.drop o).take (k * size), fun d => ?_, by simp; omega, ?_⟩
        · have hlen' : ((cc.toList.drop o).take (k * size)).length = k * size := by simp; omega
          have := run_loadCells_list (P := P) { w with drawn := d } ⟨x.r, o, none⟩ ((cc.toList.drop o).take (k * size)) (fun j y hy => by
            rw [add_plain, cell_of_row { w with drawn := d } x.r (o + j) cc e fr hw]
            rw [List.getElem?_take] at hy
            split at hy
            · rw [List.getElem?_drop] at hy; simpa using hy
            · cases hy)
          rw [hlen'] at this
          exact this
        · intro j y y' hy hy'
          rw [List.getElem?_take] at hy hy'
          split at hy
          · split at hy'
            · rw [List.getElem?_drop] at hy hy'
              obtain ⟨z, hz, hr⟩ := hi _ _ hy
              have : cc.toList[o + j]? = cc[o + j]? := by simp
              rw [this, hz] at hy'
              cases hy'
              exact hr
            · cases hy'
          · cases hy
      · cases h
    · cases h
  · rename_i n0 c
    split at h
    · rename_i h0
      cases h
      have := hv.eq_of_lit2 rfl; subst this
      have hk0 : k = 0 := by omega
      subst hk0
      exact ⟨by subst h0; rfl, by simp, [], fun _ => rfl, by simp, fun i x y hx => by simp at hx⟩
    · cases h
  · rename_i s
    split at h
    · rename_i hs
      cases h
      have := hv.eq_of_lit2 rfl; subst this
      subst hs
      have hsz : s.data.toList.length = s.size := by simp
      refine ⟨by simp [Builtin.lenOf], by simp, (s.data.toList.take k).map fun b => .int .u8 (b.toNat : Int), fun d => ?_, by simp; omega, ?_⟩
      · simp only [Builtin.firstCells, Sem.run_pure]
        congr 1
        apply Array.ext'
        simp [ByteArray.data_extract]
      · intro i x y hx hy
        rw [List.getElem?_map] at hx hy
        rw [List.getElem?_take] at hy
        split at hy
        · cases hd : s.data.toList[i]? with
          | none => rw [hd] at hx; cases hx
          | some q => rw [hd] at hx hy; simp at hx hy; subst hx hy; exact .lit rfl
        · cases hy
    · cases h
  · cases h

end
end Go.Am
