/-
  The abstract machine: reading and writing memory, addresses (own work; nothing of a dump).
-/
import Derived.Test.YtmopnogcdjehmaaDoorAm2
set_option linter.unusedSimpArgs false
set_option linter.unusedVariables false
namespace Go.Am
noncomputable section

theorem add_plain (b o n : Nat) : Addr.add ⟨b, o, none⟩ n = ⟨b, o + n, none⟩ := by
  unfold Addr.add
  split
  · subst_vars; rfl
  · rfl

theorem run_typeInfo' {P : Program} {t : TypeId} {i : TypeInfo} (h : P.info? t = some i) (w : World) : (typeInfo t).run P w = .ok i w := by
  simp [typeInfo, h]
theorem run_sizeOf' {P : Program} {t : TypeId} {i : TypeInfo} (h : P.info? t = some i) (w : World) : (sizeOf t).run P w = .ok i.size w := by
  simp [sizeOf, run_typeInfo' h]

def aggD : TypeDesc → Bool
  | .struct _ => true
  | .array _ _ => true
  | _ => false

theorem run_isAgg' {P : Program} {t : TypeId} {d : TypeDesc} (h : P.underlying t = some d) (w : World) : (isAgg t).run P w = .ok (aggD d) w := by
  simp only [isAgg, Sem.run_bind, run_underlying h, Result.andThen_ok]
  cases d <;> rfl

/-- A load. -/
def aload (P : Program) (t : TypeId) (v : Value) (m : Mem) : Option Value :=
  match v with
  | .pointer (some ⟨b, o, none⟩) =>
    match look m b with
    | some (_, _, cs) =>
      match P.underlying t with
      | some d =>
        match aggD d with
        | true => match P.info? t with
          | some i => if o + i.size ≤ cs.length then some (.agg ((cs.drop o).take i.size).toArray) else none
          | none => none
        | false => cs[o]?
      | none => none
    | _ => none
  | _ => none

theorem vr_ptr_inv {ρ : Ren} {b o : Nat} {v' : Value} (h : VR ρ (.pointer (some ⟨b, o, none⟩)) v') : ∃ x, ρ b = some x ∧ v' = .pointer (some ⟨x.r, o, none⟩) := by
  cases h with
  | lit h => simp [lit2, lit1, lit0] at h
  | ptr h => exact ⟨_, h, rfl⟩

theorem aload_sound {P : Program} {ρ : Ren} {m : Mem} {w : World} (hm : MR P ρ m w) {t : TypeId} {v v' u : Value} (hv : VR ρ v v') (h : aload P t v m = some u) :
    ∃ u', (Instr.loadAt t v').run P w = .ok u' w ∧ VR ρ u u' := by
  unfold aload at h
  split at h
  · rename_i b o
    split at h
    · rename_i ro e cs hb
      split at h
      · rename_i d hd
        obtain ⟨x, hx, rfl⟩ := vr_ptr_inv hv
        obtain ⟨x', c, fr, hx', hw, hn, hl, hi, _, _⟩ := hm.row b ro e cs hb
        rw [hx] at hx'; cases hx'
        have hcell : ∀ (i : Nat) (y : Value), c[i]? = some y → w.cell? ⟨x.r, i, none⟩ = some y := by
          intro i y hy; rw [cell_of_row w x.r i c e fr hw]; exact hy
        split at h
        · rename_i hagg
          split at h
          · rename_i i hinfo
            split at h
            · rename_i hle
              cases h
              refine ⟨.agg ((c.toList.drop o).take i.size).toArray, ?_, ?_⟩
              · simp only [Instr.loadAt, Instr.sureAddr, loadVar, Sem.run_bind, Sem.run_pure, Result.andThen_ok, run_isAgg' hd, hagg, if_true, run_sizeOf' hinfo]
                have hlen : ((c.toList.drop o).take i.size).length = i.size := by simp; omega
                have := run_loadCells_list (P := P) w ⟨x.r, o, none⟩ ((c.toList.drop o).take i.size) (fun j y hy => by
                  rw [add_plain]
                  apply hcell
                  rw [List.getElem?_take] at hy
                  split at hy
                  · rw [List.getElem?_drop] at hy; simpa using hy
                  · cases hy)
                rw [hlen] at this
                rw [this]
                rfl
              · refine VR.agg (by simp; omega) fun j y y' hy hy' => ?_
                rw [List.getElem?_take] at hy hy'
                split at hy
                · rename_i hj
                  rw [List.getElem?_drop] at hy
                  simp only [hj, if_true] at hy'
                  rw [List.getElem?_drop] at hy'
                  obtain ⟨z, hz, hr⟩ := hi _ _ hy
                  have : c.toList[o + j]? = c[o + j]? := by simp
                  rw [this, hz] at hy'
                  cases hy'
                  exact hr
                · cases hy
            · cases h
          · cases h
        · rename_i hagg
          obtain ⟨z, hz, hr⟩ := hi _ _ h
          refine ⟨z, ?_, hr⟩
          simp [Instr.loadAt, Instr.sureAddr, loadVar, run_isAgg' hd, hagg, hcell _ _ hz]
      · cases h
    · cases h
  · cases h

/-- One block of the world has turned, nothing else. -/
structure Upd (w w' : World) (g : Nat) (o : Obj) : Prop where
  os : w'.os = w.os
  tape : w'.tape = w.tape
  output : w'.output = w.output
  size : w'.heap.size = w.heap.size
  same : w'.heap[g]? = some o
  other : ∀ r, r ≠ g → w'.heap[r]? = w.heap[r]?

theorem Upd.trans {w w1 w2 : World} {g : Nat} {o o' : Obj} (h : Upd w w1 g o) (k : Upd w1 w2 g o') : Upd w w2 g o' :=
  ⟨k.os.trans h.os, k.tape.trans h.tape, k.output.trans h.output, k.size.trans h.size, k.same, fun r hr => (k.other r hr).trans (h.other r hr)⟩

theorem Upd.refl {w : World} {g : Nat} {o : Obj} (h : w.heap[g]? = some o) : Upd w w g o := ⟨rfl, rfl, rfl, rfl, h, fun _ _ => rfl⟩

theorem upd_setCell {w : World} {g i : Nat} {c : Array Value} {e : TypeId} {fr : Nat × Nat} (v : Value) (h : w.heap[g]? = some (.cells c e fr)) :
    Upd w (w.setCell ⟨g, i, none⟩ v) g (.cells (c.setIfInBounds i v) e fr) := by
  refine ⟨rfl, rfl, rfl, by simp [World.setCell], ?_, fun r hr => Go.RowKit.Below.heap_setCell w ⟨g, i, none⟩ v r hr⟩
  simp [World.setCell, Array.getElem?_modify, h]

theorem run_storeCells_loose {P : Program} {g o : Nat} {e : TypeId} {fr : Nat × Nat} : ∀ (vs : List Value) (i : Nat) (c : Array Value) (w : World),
    w.heap[g]? = some (.cells c e fr) → Loose fr c.size → o + i + vs.length ≤ c.size → (∀ v ∈ vs, v.oneCell' = true) →
    ∃ (w' : World) (c' : Array Value), (storeCells ⟨g, o, none⟩ vs i).run P w = .ok () w' ∧ Upd w w' g (.cells c' e fr) ∧ c'.size = c.size ∧
      ∀ j : Nat, c'[j]? = if o + i ≤ j ∧ j < o + i + vs.length then vs[j - (o + i)]? else c[j]?
  | [], i, c, w, hw, _, _, _ => ⟨w, c, rfl, Upd.refl hw, rfl, fun j => by rw [if_neg (by simp only [List.length_nil]; omega)]⟩
  | v :: vs, i, c, w, hw, hfr, hle, h1 => by
    simp only [List.length_cons] at hle
    have hcell : w.cell? ⟨g, o + i, none⟩ = some c[o + i] := by
      rw [cell_of_row w g (o + i) c e fr hw]; simp
    have hz : w.frozen? ⟨g, o + i, none⟩ = false := by
      have := hfr (o + i) (by omega)
      simp only [World.frozen?, hw]
      simpa using this
    have hs : (store (Addr.add ⟨g, o, none⟩ i) v).run P w = .ok () (w.setCell ⟨g, o + i, none⟩ v) := by
      rw [add_plain, run_store P w _ v .plain (h1 v (by simp)), hcell]
      simp [hz]
    have hu := upd_setCell (i := o + i) v hw
    obtain ⟨w', c', hr, hu', hsz, hj⟩ := run_storeCells_loose (P := P) (o := o) vs (i + 1) (c.setIfInBounds (o + i) v) _ hu.same (by simpa using hfr) (by simp; omega) (fun u hu => h1 u (by simp [hu]))
    refine ⟨w', c', ?_, hu.trans hu', by simpa using hsz, fun j => ?_⟩
    · simp only [storeCells, Sem.run_bind, hs, Result.andThen_ok]
      exact hr
    · rw [hj j, Array.getElem?_setIfInBounds]
      by_cases h0 : j = o + i
      · subst h0
        rw [if_neg (by omega), if_pos rfl, if_pos (by omega), if_pos (by simp)]; simp
      · by_cases h2 : o + (i + 1) ≤ j ∧ j < o + (i + 1) + vs.length
        · rw [if_pos h2, if_pos (by simp only [List.length_cons]; omega)]
          have : j - (o + i) = (j - (o + (i + 1))) + 1 := by omega
          rw [this, List.getElem?_cons_succ]
        · rw [if_neg h2, if_neg (fun e => h0 e.symm), if_neg (by simp only [List.length_cons]; omega)]

/-- l laid over cs from o on. -/
def lay (cs : List Value) (o : Nat) (l : List Value) : List Value := match l with
  | [v] => cs.set o v
  | l => cs.take o ++ (l ++ cs.drop (o + l.length))

theorem lay_length {cs : List Value} {o : Nat} {l : List Value} (h : o + l.length ≤ cs.length) : (lay cs o l).length = cs.length := by
  unfold lay
  split
  · simp
  · simp; omega

theorem lay_get {cs : List Value} {o : Nat} {l : List Value} (h : o + l.length ≤ cs.length) (j : Nat) :
    (lay cs o l)[j]? = if o ≤ j ∧ j < o + l.length then l[j - o]? else cs[j]? := by
  unfold lay
  split
  · rename_i v
    simp only [List.length_cons, List.length_nil, Nat.zero_add] at h ⊢
    rw [List.getElem?_set]
    by_cases hj : o = j
    · subst hj
      rw [if_pos rfl, if_pos (by omega), if_pos (by omega), Nat.sub_self]; rfl
    · rw [if_neg hj, if_neg (by omega)]
  · by_cases h1 : j < o
    · rw [List.getElem?_append_left (by simp; omega), if_neg (by omega), List.getElem?_take, if_pos h1]
    · rw [List.getElem?_append_right (by simp; omega)]
      have e : (cs.take o).length = o := by simp; omega
      rw [e]
      by_cases h2 : j < o + l.length
      · rw [List.getElem?_append_left (by omega), if_pos ⟨by omega, h2⟩]
      · rw [List.getElem?_append_right (by omega), if_neg (by omega), List.getElem?_drop]
        congr 1; omega

/-- The memory behind a store of a row, and the world. -/
theorem MR.update {P : Program} {ρ : Ren} {m : Mem} {w w' : World} (h : MR P ρ m w) {k : Nat} {e : TypeId} {cs cs' : List Value} {x : At} {c c' : Array Value} {fr : Nat × Nat}
    (hk : m[k]? = some (.row false e cs)) (hx : ρ k = some x) (hw : w.heap[x.r]? = some (.cells c e fr)) (hu : Upd w w' x.r (.cells c' e fr)) (hsz : c'.size = c.size)
    (hlen : cs'.length ≤ c'.size) (hc : ∀ (i : Nat) (u : Value), cs'[i]? = some u → ∃ v, c'[i]? = some v ∧ VR ρ u v) :
    MR P ρ (m.set k (.row false e cs')) w' ∧ Ext ρ m w ρ (m.set k (.row false e cs')) w' := by
  have hcase : ∀ j b, (m.set k (.row false e cs'))[j]? = some b → (j ≠ k ∧ m[j]? = some b) ∨ (j = k ∧ b = .row false e cs') := by
    intro j b hb
    rw [List.getElem?_set] at hb
    by_cases hj : k = j
    · subst hj
      simp only [if_true] at hb
      split at hb
      · right; exact ⟨rfl, (Option.some.inj hb).symm⟩
      · cases hb
    · simp only [hj, if_false] at hb
      left; exact ⟨fun e => hj e.symm, hb⟩
  have hlook : ∀ j q, look (m.set k (.row false e cs')) j = some q → (j ≠ k ∧ look m j = some q) ∨ (j = k ∧ q = (false, e, cs')) := by
    intro j q hq
    unfold look at hq
    split at hq
    · rename_i b hb
      rcases hcase j b hb with ⟨hj, hb⟩ | ⟨hj, rfl⟩
      · left; exact ⟨hj, by simp [look, hb, hq]⟩
      · right; simp [Blk.cells?] at hq; exact ⟨hj, hq.symm⟩
    · cases hq
  obtain ⟨x0, c0, fr0, hx0, hw0, hn0, hl0, hi0, hf0, hs0⟩ := h.row k false e cs (look_row hk)
  rw [hx] at hx0; cases hx0
  rw [hw] at hw0; cases hw0
  refine ⟨⟨fun j hj => h.dom j (by simpa using hj), fun j y hy => by rw [hu.size]; exact h.bnd j y hy, h.glob, ?_, ?_, ?_⟩, ⟨Ren.le_refl _, fun _ _ => rfl, by simp, fun j y hj hy => by (rw [h.dom j hj] at hy; cases hy), hu.os, hu.tape, hu.output, by rw [hu.size]; exact Nat.le_refl _, ?_, ?_⟩⟩
  · intro j ro' e' cs1 hb
    rcases hlook j _ hb with ⟨hj, hb'⟩ | ⟨rfl, hb'⟩
    · obtain ⟨y, c1, fr1, hy, hw1, hn1, hl1, hi1, hf1, hs1⟩ := h.row j ro' e' cs1 hb'
      have hne : y.r ≠ x.r := fun e1 => hj (h.inj k e cs j ro' e' cs1 x y hk hb' hx hy e1.symm).symm
      exact ⟨y, c1, fr1, hy, by rw [hu.other _ hne]; exact hw1, hn1, hl1, hi1, hf1, hs1⟩
    · cases hb'
      exact ⟨x, c', fr, hx, hu.same, by rw [hsz]; exact hn0, hlen, hc, fun hh => by rw [hsz]; exact hf0 hh, hs0⟩
  · intro j e1 cs1 j' ro' e' cs2 y y' hb hb' hy hy' hr
    have old : ∀ (j : Nat) (ro : Bool) (e1 : TypeId) (cs1 : List Value), look (m.set k (Blk.row false e cs')) j = some (ro, e1, cs1) → ∃ e2 cs2, look m j = some (ro, e2, cs2) := by
      intro j ro e1 cs1 hb
      rcases hlook j _ hb with ⟨_, hb1⟩ | ⟨rfl, hb1⟩
      · exact ⟨e1, cs1, hb1⟩
      · cases hb1; exact ⟨e, cs, look_row hk⟩
    obtain ⟨e2, cs3, h2'⟩ := old _ _ _ _ (look_row hb)
    have h2 := row_of_look h2'
    obtain ⟨e3, cs4, h3⟩ := old _ _ _ _ hb'
    exact h.inj j e2 cs3 j' ro' e3 cs4 y y' h2 h3 hy hy' hr
  · intro j e1 cs1 hb
    rcases hcase j _ hb with ⟨_, hb1⟩ | ⟨_, hb1⟩
    · exact h.tab j e1 cs1 hb1
    · cases hb1
  · intro r hr hno
    exact hu.other r fun e1 => hno k e cs x hk hx e1.symm
  · intro j e1 cs1 y hb hy
    rcases hcase j _ hb with ⟨_, hb1⟩ | ⟨rfl, hb1⟩
    · right; exact ⟨j, e1, cs1, y, hb1, hy, rfl⟩
    · right; exact ⟨j, e, cs, y, hk, hy, rfl⟩

/-- A store. -/
def astore (P : Program) (t : TypeId) (v u : Value) (m : Mem) : Option Mem :=
  match v with
  | .pointer (some ⟨b, o, none⟩) =>
    match m[b]? with
    | some (.row false e cs) =>
      match vcells u with
      | some l =>
        match P.info? t with
        | some i => if l.length = i.size ∧ o + l.length ≤ cs.length then some (m.set b (.row false e (lay cs o l))) else none
        | none => none
      | none => none
    | _ => none
  | _ => none

theorem astore_sound {P : Program} {ρ : Ren} {m m1 : Mem} {w : World} (hm : MR P ρ m w) {t : TypeId} {v v' u u' : Value} (hv : VR ρ v v') (hu : VR ρ u u') (h : astore P t v u m = some m1) :
    ∃ w1, (Instr.storeAt t v' u').run P w = .ok () w1 ∧ MR P ρ m1 w1 ∧ Ext ρ m w ρ m1 w1 := by
  unfold astore at h
  split at h
  · rename_i b o
    split at h
    · rename_i e cs hb
      split at h
      · rename_i l hl
        split at h
        · rename_i i hi
          split at h
          · rename_i hle
            cases h
            obtain ⟨x, hx, rfl⟩ := vr_ptr_inv hv
            obtain ⟨x', c, fr, hx', hw, hn, hlen, hcs, hf, hs⟩ := hm.row b false e cs (look_row hb)
            rw [hx] at hx'; cases hx'
            obtain ⟨hl1, hl2, hl3⟩ := vcells_vr hu hl
            obtain ⟨w', c', hr, hup, hsz, hj⟩ := run_storeCells_loose (P := P) (o := o) u'.cells.toList 0 c w hw (hf rfl) (by simp; omega) hl3
            refine ⟨w', ?_, ?_⟩
            · simp only [Instr.storeAt, Instr.sureAddr, storeVar, Sem.run_bind, Sem.run_pure, Result.andThen_ok, run_sizeOf' hi]
              rw [if_neg (by omega)]
              simpa using hr
            · refine hm.update hb hx hw hup hsz (by rw [lay_length hle.2]; omega) fun j y hy => ?_
              rw [lay_get hle.2] at hy
              rw [hj j]
              simp only [Nat.add_zero]
              split at hy
              · rename_i hj1
                rw [if_pos (by simp; omega)]
                have hlt : j - o < u'.cells.size := by omega
                refine ⟨u'.cells[j - o], by simp [hlt], hl2 _ _ _ hy (by simp [hlt])⟩
              · rename_i hj1
                rw [if_neg (by simp; omega)]
                exact hcs j y hy
          · cases h
        · cases h
      · cases h
    · cases h
  · cases h

end
end Go.Am
