/-
  Texts of my own, put together: K2, K3.
-/
import Derived.Test.YtfgincdpgdlfnaaDoorGrLimbTexts5
set_option linter.unusedSimpArgs false
set_option linter.unusedVariables false
namespace Go.Am
noncomputable section
theorem MR.allocAt {P : Program} {ρ : Ren} {m : Mem} {w : World} (h : MR P ρ m w) {k : Nat} (hk : m[k]? = some .dead) (hρ : ρ k = none) {e : TypeId} {cs : List Value} {c : Array Value} {s : Nat}
    (fr : Nat × Nat) (hfr : Loose fr c.size) (hs : (P.info? e).map (·.size) = some s) (hlen : cs.length ≤ c.size)
    (hc : ∀ (i : Nat) (u : Value), cs[i]? = some u → ∃ v, c[i]? = some v ∧ VR ρ u v) :
    MR P (ρ.put k ⟨w.heap.size, c.size, s⟩) (m.set k (.row false e cs)) (w.alloc (.cells c e fr)) := by
  have hkl : k < m.length := (List.getElem?_eq_some_iff.1 hk).1
  have hle : ρ.le (ρ.put k ⟨w.heap.size, c.size, s⟩) := Ren.le_put hρ
  have hnew : (w.alloc (.cells c e fr)).heap[w.heap.size]? = some (.cells c e fr) := heap_alloc_new _ _
  have hold' : ∀ i, i < w.heap.size → (w.alloc (.cells c e fr)).heap[i]? = w.heap[i]? := fun i hi => Go.RowKit.Below.heap_alloc _ _ _ hi
  have hcase : ∀ j b, (m.set k (Blk.row false e cs))[j]? = some b → (j ≠ k ∧ m[j]? = some b) ∨ (j = k ∧ b = .row false e cs) := by
    intro j b hb
    rw [List.getElem?_set] at hb
    split at hb
    · rename_i hj
      subst hj
      first
        | (rw [if_pos hkl] at hb; cases hb)
        | cases hb
      exact .inr ⟨rfl, rfl⟩
    · rename_i hj
      exact .inl ⟨fun e => hj e.symm, hb⟩
  have hlook : ∀ j t, look (m.set k (Blk.row false e cs)) j = some t → (j ≠ k ∧ look m j = some t) ∨ (j = k ∧ t = (false, e, cs)) := by
    intro j t ht
    unfold look at ht
    split at ht
    · rename_i b hb
      rcases hcase j b hb with ⟨hj, hb⟩ | ⟨hj, rfl⟩
      · left; exact ⟨hj, by simp [look, hb, ht]⟩
      · right; simp [Blk.cells?] at ht; exact ⟨hj, ht.symm⟩
    · cases ht
  have hput : ∀ j, j ≠ k → (ρ.put k ⟨w.heap.size, c.size, s⟩) j = ρ j := by
    intro j hj; unfold Ren.put; rw [if_neg hj]
  have hputn : (ρ.put k ⟨w.heap.size, c.size, s⟩) k = some ⟨w.heap.size, c.size, s⟩ := by simp [Ren.put]
  refine ⟨?_, ?_, fun g hg => (h.glob g hg).imp fun x hx => ⟨hle _ _ hx.1, hx.2⟩, ?_, ?_, ?_⟩
  · intro j hj
    rw [List.length_set] at hj
    rw [hput j (by omega)]
    exact h.dom j hj
  · intro j x hx
    have hsz : (w.alloc (.cells c e fr)).heap.size = w.heap.size + 1 := by show (w.heap.push _).size = _; simp
    unfold Ren.put at hx
    split at hx
    · cases hx; simp only [hsz]; omega
    · have := h.bnd _ _ hx; omega
  · intro j ro' e' cs' hb
    rcases hlook j _ hb with ⟨hj, hb⟩ | ⟨rfl, hb2⟩
    · obtain ⟨x, c', fr', hx, hw, hn, hl, hi, hf, hz⟩ := h.row j ro' e' cs' hb
      refine ⟨x, c', fr', hle _ _ hx, ?_, hn, hl, fun i u hu => ?_, hf, hz⟩
      · rw [hold' _ (h.bnd _ _ hx)]; exact hw
      · obtain ⟨v, hv, hr⟩ := hi i u hu
        exact ⟨v, hv, hr.mono hle⟩
    · cases hb2
      exact ⟨_, c, fr, hputn, hnew, rfl, hlen, fun i u hu => by obtain ⟨v, hv, hr⟩ := hc i u hu; exact ⟨v, hv, hr.mono hle⟩, fun _ => hfr, hs⟩
  · intro j e1 cs1 j' ro' e' cs' x x' hb hb' hx hx' hr
    rcases hcase j _ hb with ⟨hj, hb⟩ | ⟨rfl, hb⟩
    · rcases hlook j' _ hb' with ⟨hj', hb'⟩ | ⟨rfl, hb'⟩
      · rw [hput j hj] at hx
        rw [hput j' hj'] at hx'
        exact h.inj j e1 cs1 j' ro' e' cs' x x' hb hb' hx hx' hr
      · rw [hput j hj] at hx
        rw [hputn] at hx'
        cases hx'
        have := h.bnd _ _ hx
        simp at hr; omega
    · rcases hlook j' _ hb' with ⟨hj', hb'⟩ | ⟨rfl, hb'⟩
      · rw [hput j' hj'] at hx'
        rw [hputn] at hx
        cases hx
        have := h.bnd _ _ hx'
        simp at hr; omega
      · rfl
  · intro j e1 cs1 hb
    rcases hcase j _ hb with ⟨hj, hb⟩ | ⟨_, hb⟩
    · exact h.tab j e1 cs1 hb
    · cases hb
theorem Ext.allocAt {ρ0 ρ : Ren} {m0 m : Mem} {w0 w : World} (hx : Ext ρ0 m0 w0 ρ m w) {k : Nat} (hk : m0.length ≤ k) (hρ : ρ k = none) {n s : Nat} {e : TypeId} {cs : List Value} {o : Obj} :
    Ext ρ0 m0 w0 (ρ.put k ⟨w.heap.size, n, s⟩) (m.set k (.row false e cs)) (w.alloc o) := by
  have hput : ∀ j, j ≠ k → (ρ.put k ⟨w.heap.size, n, s⟩) j = ρ j := by
    intro j hj; unfold Ren.put; rw [if_neg hj]
  have hputn : (ρ.put k ⟨w.heap.size, n, s⟩) k = some ⟨w.heap.size, n, s⟩ := by simp [Ren.put]
  refine ⟨Ren.le_trans hx.le (Ren.le_put hρ), fun j hj => by rw [hput j (by omega)]; exact hx.same j hj, by rw [List.length_set]; exact hx.len, ?_, hx.os, hx.tape, hx.output, ?_, ?_, ?_⟩
  · intro j x hj hxj
    by_cases hjk : j = k
    · subst hjk
      rw [hputn] at hxj
      cases hxj
      left; exact hx.size
    · rw [hput j hjk] at hxj
      exact hx.fresh j x hj hxj
  · have hsz : (w.alloc o).heap.size = w.heap.size + 1 := by show (w.heap.push _).size = _; simp
    have := hx.size
    omega
  · intro r hr hno
    rw [Go.RowKit.Below.heap_alloc _ _ _ (Nat.lt_of_lt_of_le hr hx.size)]
    exact hx.kept r hr hno
  · intro j e1 cs1 x hb hxj
    by_cases hjk : j = k
    · subst hjk
      rw [hputn] at hxj
      cases hxj
      left; exact hx.size
    · rw [hput j hjk] at hxj
      rw [List.getElem?_set_ne (fun e => hjk e.symm)] at hb
      exact hx.own j e1 cs1 x hb hxj
theorem MR.deads {P : Program} {ρ : Ren} {m : Mem} {w : World} (h : MR P ρ m w) {l : List Blk} (hl : ∀ b ∈ l, b = .dead) : MR P ρ (m ++ l) w := by
  have hcase : ∀ (j : Nat) (b : Blk), (m ++ l)[j]? = some b → m[j]? = some b ∨ b = Blk.dead := by
    intro j b hb
    by_cases hj : j < m.length
    · left; rw [List.getElem?_append_left hj] at hb; exact hb
    · right
      rw [List.getElem?_append_right (by omega)] at hb
      exact hl b (List.mem_of_getElem? hb)
  have hlook : ∀ j t, look (m ++ l) j = some t → look m j = some t := by
    intro j t ht
    unfold look at ht
    split at ht
    · rename_i b hb
      rcases hcase j b hb with hb | rfl
      · simp [look, hb, ht]
      · cases ht
    · cases ht
  refine ⟨fun j hj => h.dom j (by simp at hj; omega), h.bnd, h.glob, fun j ro e cs hb => h.row j ro e cs (hlook j _ hb), fun j e cs j' ro' e' cs' x x' hb hb' => ?_, fun j e cs hb => ?_⟩
  · rcases hcase j _ hb with hb | hb
    · exact h.inj j e cs j' ro' e' cs' x x' hb (hlook j' _ hb')
    · cases hb
  · rcases hcase j _ hb with hb | hb
    · exact h.tab j e cs hb
    · cases hb
def isAl (ops : Array Oper) (i : Nat) : Bool := match ops[i]? with
  | some o => (match o.op with
    | .alloc _ => true
    | _ => false)
  | none => false
def alL (ops : Array Oper) : List Nat := (List.range ops.size).filter (isAl ops)
def rank (ops : Array Oper) (i : Nat) : Nat := ((List.range i).filter (isAl ops)).length
def isSt (ops : Array Oper) (s j : Nat) : Bool := match ops[j]? with
  | some o => (match o.op with
    | .store _ (.tmp q) _ => q == s
    | _ => false)
  | none => false
def stIdx (ops : Array Oper) (s : Nat) : Option Nat := (List.range ops.size).find? (isSt ops s)
def stOf (ops : Array Oper) (i : Nat) : Option Nat := match ops[i]? with
  | some o => (match o.dst with
    | some d => stIdx ops d
    | none => none)
  | none => none
def stRow (ops : Array Oper) (j : Nat) : Option (TypeId × Operand) := match ops[j]? with
  | some o => (match o.op with
    | .store t _ y => some (t, y)
    | _ => none)
  | none => none
def srRow (ops : Array Oper) (i : Nat) : TypeId × Option (TypeId × Operand) := (match ops[i]? with
  | some o => (match o.op with
    | .alloc t => t
    | _ => 0)
  | none => 0, (stOf ops i).bind (stRow ops))
def srTab (ops : Array Oper) : List (TypeId × Option (TypeId × Operand)) := (alL ops).map (srRow ops)
def zeroB (P : Program) (t : TypeId) : Option Blk := match aalloc P t [] with
  | some (_, [b]) => some b
  | _ => none
def content (P : Program) (T1 : List Value) (t : TypeId) (s : Option (TypeId × Operand)) : Option Blk := match zeroB P t with
  | some b0 => (match s with
    | none => some b0
    | some (t2, y) => (match astore P t2 (.pointer (some ⟨0, 0, none⟩)) (ev T1 y) [b0] with
      | some [b1] => some b1
      | _ => none))
  | none => none
def contents (P : Program) (T1 : List Value) : List (TypeId × Option (TypeId × Operand)) → Option (List Blk)
  | [] => some []
  | r :: l => match content P T1 r.1 r.2 with
    | some b => (match contents P T1 l with
      | some bs => some (b :: bs)
      | none => none)
    | none => none
theorem contents_spec {P : Program} {T1 : List Value} : ∀ {l : List (TypeId × Option (TypeId × Operand))} {nb : List Blk}, contents P T1 l = some nb → nb.length = l.length ∧ ∀ (k : Nat) r, l[k]? = some r → ∃ b, nb[k]? = some b ∧ content P T1 r.1 r.2 = some b
  | [], nb, h => by
    simp only [contents, Option.some.injEq] at h
    subst h
    exact ⟨rfl, fun k r hr => by simp at hr⟩
  | r :: l, nb, h => by
    simp only [contents] at h
    split at h
    · rename_i b hb
      split at h
      · rename_i bs hbs
        cases h
        obtain ⟨h1, h2⟩ := contents_spec hbs
        refine ⟨by simp [h1], fun k r' hr => ?_⟩
        cases k with
        | zero => simp at hr; subst hr; exact ⟨b, rfl, hb⟩
        | succ k => simp at hr; simpa using h2 k r' hr
      · cases h
    · cases h
def asrT (E : Env) (self : Self) (ops : Array Oper) (m : Mem) : List Oper → Nat → List Value → Option (List Value)
  | [], _, T => some T
  | o :: l, k, T => match agd ops T o with
    | some true => (match o.op with
      | .alloc _ => asrT E self ops m l (k + 1) (aput T o.dst (.pointer (some ⟨m.length + k, 0, none⟩)))
      | .store _ x _ => (match ev T x with
        | .pointer (some _) => asrT E self ops m l k (aput T o.dst junk)
        | _ => none)
      | _ => (match cls E.P E.wr o with
        | 0 => (match afloat E.P T o with
          | some v => asrT E self ops m l k (aput T o.dst v)
          | none => none)
        | 1 => (match astep E self T (m.map sealed) o with
          | some (v, m1) => if (belowB T m.length o || (isCall o && laterOk E T m o v)) && decide (m1.length = m.length) then asrT E self ops m l k (aput T o.dst v) else none
          | none => none)
        | _ => none))
    | _ => none
def asr (E : Env) (self : Self) (ops : Array Oper) (T : List Value) (m : Mem) : Option (List Value × Mem) := match asrT E self ops m ops.toList 0 T with
  | some T1 => (match contents E.P T1 (srTab ops) with
    | some nb => some (T1, m ++ nb)
    | none => none)
  | none => none
def srOp (P : Program) (ops : Array Oper) (i : Nat) : Bool := match ops[i]? with
  | some o => okOp P o.op && (match o.op with
    | .alloc _ => o.dst.isSome
    | .store _ x y => (match x with
      | .tmp s => (o.dst == none) && ((stIdx ops s == some i) && (((List.range i).any fun q => isAl ops q && ((ops[q]?).bind (·.dst) == some s)) && (match y with
        | .tmp r => (List.range ops.size).all fun k => decide (k ≤ i) || ((ops[k]?).bind (·.dst) != some r)
        | _ => true)))
      | _ => false)
    | _ => true)
  | none => false
def srOkB (P : Program) (ops : Array Oper) : Bool := Region.noSelect ops && (edgesB ops && (slotsB ops && (List.range ops.size).all (srOp P ops)))
def SStp (E : Env) (self : Self) (ops : Array Oper) (m : Mem) (i : Nat) (o : Oper) (T T' : List Value) : Prop :=
  ∃ v, T' = aput T o.dst v ∧ agd ops T o = some true ∧ (
    ((∃ t, o.op = .alloc t) ∧ v = .pointer (some ⟨m.length + rank ops i, 0, none⟩)) ∨
    ((∃ t x y, o.op = .store t x y ∧ ∃ ad, ev T x = .pointer (some ad)) ∧ v = junk) ∨
    ((∀ t, o.op ≠ .alloc t) ∧ (∀ t x y, o.op ≠ .store t x y) ∧ cls E.P E.wr o = 0 ∧ afloat E.P T o = some v) ∨
    ((∀ t, o.op ≠ .alloc t) ∧ (∀ t x y, o.op ≠ .store t x y) ∧ cls E.P E.wr o = 1 ∧ (belowB T m.length o = true ∨ (isCall o = true ∧ laterOk E T m o v = true)) ∧ ∃ m1, astep E self T (m.map sealed) o = some (v, m1) ∧ m1.length = m.length))
theorem rank_succ {ops : Array Oper} {i : Nat} : rank ops (i + 1) = rank ops i + (if isAl ops i then 1 else 0) := by
  unfold rank
  rw [List.range_succ, List.filter_append, List.length_append]
  cases h : isAl ops i <;> simp [h]
theorem asrT_trace {E : Env} {self : Self} {ops : Array Oper} {m : Mem} : ∀ (l : List Oper) (i : Nat) (T T1 : List Value), ops.toList.drop i = l → asrT E self ops m l (rank ops i) T = some T1 →
    ∃ tr : Nat → List Value, tr 0 = T ∧ tr l.length = T1 ∧ ∀ j o, l[j]? = some o → SStp E self ops m (i + j) o (tr j) (tr (j + 1))
  | [], i, T, T1, _, h => by
    simp only [asrT, Option.some.injEq] at h
    exact ⟨fun _ => T, rfl, h, fun j o ho => by simp at ho⟩
  | o :: l, i, T, T1, hd, h => by
    have hi : i < ops.size := by
      have := congrArg List.length hd
      simp at this
      omega
    have ho : ops[i]? = some o := by
      have := congrArg (fun l : List Oper => l[0]?) hd
      simpa using this
    have hn : ops.toList.drop (i + 1) = l := by
      rw [← List.drop_drop, hd]; rfl
    have key : ∀ T2, SStp E self ops m i o T T2 → asrT E self ops m l (rank ops (i + 1)) T2 = some T1 → ∃ tr : Nat → List Value, tr 0 = T ∧ tr (o :: l).length = T1 ∧ ∀ j o', (o :: l)[j]? = some o' → SStp E self ops m (i + j) o' (tr j) (tr (j + 1)) := by
      intro T2 hs h2
      obtain ⟨tr, h0, h1, hst⟩ := asrT_trace l (i + 1) T2 T1 hn h2
      refine ⟨fun j => match j with | 0 => T | j + 1 => tr j, rfl, h1, fun j o' ho' => ?_⟩
      cases j with
      | zero => simp at ho'; subst ho'; show SStp E self ops m _ _ T (tr 0); rw [h0]; exact hs
      | succ j => simp at ho'; have := hst j o' ho'; rw [show i + 1 + j = i + (j + 1) by omega] at this; exact this
    have rk : isAl ops i = false → rank ops (i + 1) = rank ops i := fun h => by rw [rank_succ, h]; rfl
    simp only [asrT] at h
    split at h
    · rename_i hg
      split at h
      · rename_i t hop
        have ha : isAl ops i = true := by simp [isAl, ho, hop]
        exact key _ ⟨_, rfl, hg, .inl ⟨⟨t, hop⟩, rfl⟩⟩ (by rw [rank_succ, ha]; exact h)
      · rename_i t x y hop
        have ha : isAl ops i = false := by simp [isAl, ho, hop]
        split at h
        · rename_i ad had
          exact key _ ⟨_, rfl, hg, .inr (.inl ⟨⟨t, x, y, hop, ad, had⟩, rfl⟩)⟩ (by rw [rk ha]; exact h)
        · cases h
      · rename_i hna hns
        have ha : isAl ops i = false := by
          unfold isAl
          rw [ho]
          simp only
          all_goals (split <;> first | rfl | (rename_i t hop; exact absurd hop (hna t)))
        split at h
        · rename_i hc
          split at h
          · rename_i v hv
            exact key _ ⟨v, rfl, hg, .inr (.inr (.inl ⟨hna, hns, hc, hv⟩))⟩ (by rw [rk ha]; exact h)
          · cases h
        · rename_i hc
          split at h
          · rename_i v m1 hs
            split at h
            · rename_i hcond
              simp only [Bool.and_eq_true, Bool.or_eq_true, decide_eq_true_eq] at hcond
              exact key _ ⟨v, rfl, hg, .inr (.inr (.inr ⟨hna, hns, hc, hcond.1, m1, hs, hcond.2⟩))⟩ (by rw [rk ha]; exact h)
            · cases h
          · cases h
        · cases h
    · cases h
theorem alL_rank {ops : Array Oper} {i : Nat} (hi : i < ops.size) (ha : isAl ops i = true) : (alL ops)[rank ops i]? = some i := by
  obtain ⟨d, hd⟩ : ∃ d, ops.size = i + 1 + d := ⟨ops.size - (i + 1), by omega⟩
  unfold alL rank
  rw [hd, List.range_add, List.range_succ, List.filter_append, List.filter_append]
  have h1 : List.filter (isAl ops) [i] = [i] := by simp [ha]
  rw [h1, List.getElem?_append_left (by simp), List.getElem?_append_right (Nat.le_refl _)]
  simp
theorem alL_inj {ops : Array Oper} {k k' i : Nat} (h : (alL ops)[k]? = some i) (h' : (alL ops)[k']? = some i) : k = k' := by
  have hn : (alL ops).Nodup := List.nodup_range.filter _
  have hk : k < (alL ops).length := (List.getElem?_eq_some_iff.1 h).1
  exact (List.getElem?_inj hk hn).1 (h.trans h'.symm)
theorem alL_is {ops : Array Oper} {k i : Nat} (h : (alL ops)[k]? = some i) : i < ops.size ∧ isAl ops i = true := by
  have := List.mem_of_getElem? h
  unfold alL at this
  rw [List.mem_filter] at this
  exact ⟨List.mem_range.1 this.1, this.2⟩
theorem stIdx_is {ops : Array Oper} {s j : Nat} (h : stIdx ops s = some j) : j < ops.size ∧ isSt ops s j = true := by
  unfold stIdx at h
  exact ⟨List.mem_range.1 (List.mem_of_find?_eq_some h), List.find?_some h⟩
def bl (P : Program) (ops : Array Oper) (nb : List Blk) (L : Array Bool) (k : Nat) : Blk := match (alL ops)[k]? with
  | some i => (match L.getD i false with
    | true => (match (match stOf ops i with | some j => L.getD j false | none => true) with
      | true => nb.getD k .dead
      | false => (zeroB P (srRow ops i).1).getD .dead)
    | false => .dead)
  | none => .dead
def mL (P : Program) (ops : Array Oper) (m : Mem) (nb : List Blk) (L : Array Bool) : Mem := m ++ (List.range nb.length).map (bl P ops nb L)
theorem mL_length {P : Program} {ops : Array Oper} {m : Mem} {nb : List Blk} {L : Array Bool} : (mL P ops m nb L).length = m.length + nb.length := by simp [mL]
theorem mL_old {P : Program} {ops : Array Oper} {m : Mem} {nb : List Blk} {L : Array Bool} {b : Nat} (h : b < m.length) : (mL P ops m nb L)[b]? = m[b]? := by
  unfold mL; rw [List.getElem?_append_left h]
theorem mL_new {P : Program} {ops : Array Oper} {m : Mem} {nb : List Blk} {L : Array Bool} {k : Nat} (h : k < nb.length) : (mL P ops m nb L)[m.length + k]? = some (bl P ops nb L k) := by
  unfold mL
  rw [List.getElem?_append_right (by omega), Nat.add_sub_cancel_left, List.getElem?_map, List.getElem?_range h]
  rfl
theorem mL_ext {P : Program} {ops : Array Oper} {m : Mem} {nb : List Blk} {L L' : Array Bool} (h : ∀ k, k < nb.length → bl P ops nb L' k = bl P ops nb L k) : mL P ops m nb L' = mL P ops m nb L := by
  unfold mL
  congr 1
  exact List.map_congr_left fun k hk => h k (List.mem_range.1 hk)
theorem mL_set {P : Program} {ops : Array Oper} {m : Mem} {nb : List Blk} {L L' : Array Bool} {k : Nat} (hk : k < nb.length) (h : ∀ j, j < nb.length → j ≠ k → bl P ops nb L' j = bl P ops nb L j) :
    mL P ops m nb L' = (mL P ops m nb L).set (m.length + k) (bl P ops nb L' k) := by
  apply List.ext_getElem?
  intro b
  by_cases hb : b < m.length
  · rw [mL_old hb, List.getElem?_set_ne (by omega), mL_old hb]
  · obtain ⟨j, rfl⟩ : ∃ j, b = m.length + j := ⟨b - m.length, by omega⟩
    by_cases hj : j < nb.length
    · rw [mL_new hj]
      by_cases hjk : j = k
      · subst hjk
        rw [List.getElem?_set_self (by rw [mL_length]; omega)]
      · rw [List.getElem?_set_ne (by omega), mL_new hj, h j hj hjk]
    · rw [List.getElem?_eq_none (by rw [mL_length]; omega), List.getElem?_eq_none (by rw [List.length_set, mL_length]; omega)]
theorem getD_put {L : Array Bool} {i : Nat} (hi : i < L.size) (j : Nat) : (L.setIfInBounds i true).getD j false = if j = i then true else L.getD j false := by
  by_cases h : j = i
  · subst h; rw [if_pos rfl]; exact getD_set_self hi false
  · rw [if_neg h, getD_set_ne false (fun e => h e.symm)]
theorem bl_other {P : Program} {ops : Array Oper} {nb : List Blk} {L : Array Bool} {i k : Nat} (hi : i < L.size) (h1 : (alL ops)[k]? ≠ some i) (h2 : ∀ q, (alL ops)[k]? = some q → stOf ops q ≠ some i) : bl P ops nb (L.setIfInBounds i true) k = bl P ops nb L k := by
  unfold bl
  cases hk : (alL ops)[k]? with
  | none => rfl
  | some q =>
    have hqi : q ≠ i := fun e => h1 (by rw [hk, e])
    simp only
    rw [getD_put hi, if_neg hqi]
    cases hs : stOf ops q with
    | none => rfl
    | some j =>
      have hji : j ≠ i := fun e => h2 q hk (by rw [hs, e])
      simp only
      rw [getD_put hi, if_neg hji]
structure STrace (E : Env) (sf : Self) (ops : Array Oper) (m : Mem) (tr : Nat → List Value) : Prop where
  step : ∀ (i : Nat) (o : Oper), ops[i]? = some o → SStp E sf ops m i o (tr i) (tr (i + 1))
namespace STrace
variable {E : Env} {self : Self} {ops : Array Oper} {m : Mem} {tr : Nat → List Value}
theorem length (h : STrace E self ops m tr) : ∀ k, k ≤ ops.size → (tr k).length = (tr 0).length := by
  intro k
  induction k with
  | zero => intro _; rfl
  | succ k ih =>
    intro hk
    obtain ⟨v, hv, _⟩ := h.step k ops[k] (by simp)
    rw [hv, aput_length, ih (by omega)]
theorem old (h : STrace E self ops m tr) : ∀ k, k ≤ ops.size → ∀ t : Nat, (¬ ∃ j, j < k ∧ DstIs ops j t) → (tr k)[t]? = (tr 0)[t]? := by
  intro k
  induction k with
  | zero => intro _ t _; rfl
  | succ k ih =>
    intro hk t hno
    obtain ⟨v, hv, _⟩ := h.step k ops[k] (by simp)
    rw [hv, aput_other, ih (by omega) t fun ⟨j, hj, hd⟩ => hno ⟨j, by omega, hd⟩]
    intro hd
    exact hno ⟨k, by omega, ops[k], by simp, hd⟩
theorem new (h : STrace E self ops m tr) (hs : slotsB ops = true) : ∀ d k, k + d = ops.size → ∀ t : Nat, (∃ j, j < k ∧ DstIs ops j t) → (tr k)[t]? = (tr ops.size)[t]? := by
  intro d
  induction d with
  | zero => intro k hk t _; rw [show k = ops.size by omega]
  | succ d ih =>
    intro k hk t hex
    rw [← ih (k + 1) (by omega) t (by obtain ⟨j, hj, hd⟩ := hex; exact ⟨j, by omega, hd⟩)]
    obtain ⟨v, hv, _⟩ := h.step k ops[k] (by simp)
    rw [hv, aput_other]
    intro hd
    obtain ⟨j, hj, oj, hoj, hdj⟩ := hex
    exact (slotsB_spec hs (i := k) (j := j) (by omega) (by omega) (by omega) (by simp) hoj hdj).1 hd
end STrace
structure SInv (D : List Deferred) (E : Env) (ops : Array Oper) (m : Mem) (nb : List Blk) (tr : Nat → List Value) (ρ0 : Ren) (w0 : World) (L : Array Bool) (a : Act) (w : World) : Prop where
  head : HeadInv .any ops ops.size L
  defers : a.defers = D
  size : (tr 0).length = a.tmps.size
  ex : ∃ (ρ : Ren), MR E.P ρ (mL E.P ops m nb L) w ∧ Ext ρ0 m w0 ρ (mL E.P ops m nb L) w ∧
    (∀ k i, (alL ops)[k]? = some i → L.getD i false = false → ρ (m.length + k) = none) ∧
    (∀ (t : Nat) (x y : Value), (∃ j, j < ops.size ∧ DstIs ops j t ∧ L.getD j false = true) → (tr ops.size)[t]? = some x → a.tmps[t]? = some y → VR ρ x y) ∧
    (∀ (t : Nat) (x y : Value), (¬ ∃ j, j < ops.size ∧ DstIs ops j t ∧ L.getD j false = true) → (tr 0)[t]? = some x → a.tmps[t]? = some y → VR ρ x y)
theorem zero_spec {P : Program} {t : TypeId} {b : Blk} (h : zeroB P t = some b) (w : World) : ∃ (l : List Value) (i : TypeInfo) (c : Array Value), b = .row false t l ∧ P.info? t = some i ∧ c.toList = l ∧ l.all lit0 = true ∧
    (Instr.alloc t true (.tuple #[])).run P w = .ok (.pointer (some ⟨w.heap.size, 0, none⟩)) (w.alloc (.cells c t (0, 0))) := by
  unfold zeroB aalloc at h
  cases hi : P.info? t with
  | none => simp [hi] at h
  | some i =>
    simp only [hi] at h
    cases hz : i.zero with
    | none => simp [hz] at h
    | some z =>
      simp only [hz] at h
      cases hl : vcells z with
      | none => simp [hl] at h
      | some l =>
        simp only [hl] at h
        by_cases hall : l.all lit0 = true
        · rw [if_pos hall] at h
          simp only [List.nil_append, Option.some.injEq] at h
          subst h
          have hzv : VR (fun _ => none) z z := by
            cases z <;> simp only [vcells] at hl
            case agg cs =>
              split at hl
              · cases hl; exact .lit (by simpa [lit2, lit1] using hall)
              · cases hl
            case tuple => cases hl
            case chan r => cases r <;> simp at hl; subst hl; exact .lit (lit2_of_lit1 (lit1_of_lit0 (by simpa using hall)))
            all_goals (simp only [Option.some.injEq] at hl; subst hl; exact .lit (lit2_of_lit1 (lit1_of_lit0 (by simpa using hall))))
          obtain ⟨h1, h2, _⟩ := vcells_vr hzv hl
          refine ⟨l, i, z.cells, rfl, rfl, ?_, hall, ?_⟩
          · apply List.ext_getElem?
            intro j
            by_cases hj : j < l.length
            · have hj' : j < z.cells.size := by omega
              have e1 : l[j]? = some l[j] := by simp [hj]
              have e2 : z.cells[j]? = some z.cells[j] := by simp [hj']
              have := (h2 j _ _ e1 e2).eq_of_lit0 ((List.all_eq_true.1 hall) _ (by simp))
              rw [Array.getElem?_toList, e2, e1, this]
            · rw [List.getElem?_eq_none (by simp; omega), List.getElem?_eq_none (by omega)]
          · simp only [Instr.alloc, zeroValue, Sem.run_bind, run_typeInfo' hi, Result.andThen_ok, hz, Sem.run_pure]
            simp only [newVar, newRow, Sem.run_bind, run_newObj, Result.andThen_ok, Sem.run_pure]
            rfl
        · rw [if_neg hall] at h
          cases h
theorem astore_one {P : Program} {t : TypeId} {u : Value} {b0 b1 : Blk} (h : astore P t (.pointer (some ⟨0, 0, none⟩)) u [b0] = some [b1]) {m : Mem} {b : Nat} (hb : m[b]? = some b0) : astore P t (.pointer (some ⟨b, 0, none⟩)) u m = some (m.set b b1) := by
  unfold astore at h ⊢
  simp only [List.getElem?_cons_zero] at h
  simp only [hb]
  cases b0 with
  | dead => cases h
  | tab e cs => cases h
  | row ro e cs =>
    cases ro with
    | true => cases h
    | false =>
      simp only at h ⊢
      split at h
      · rename_i l hl
        split at h
        · rename_i i hi
          split at h
          · rename_i hc
            simp only [List.set_cons_zero, Option.some.injEq, List.cons.injEq, and_true] at h
            rw [if_pos hc, h]
          · cases h
        · cases h
      · cases h
theorem sr_step {D : List Deferred} {E : Env} {self : Self} (hs : CallOK E.P (ainv E self)) (hnum : noNum E.P) (hx9 : XOK E) {ops : Array Oper} (hslots : slotsB ops = true) (hsr : ∀ i, i < ops.size → srOp E.P ops i = true)
    {m : Mem} {nb : List Blk} {tr : Nat → List Value} (ht : STrace E self ops m tr) (hnb : contents E.P (tr ops.size) (srTab ops) = some nb) {ρ0 : Ren} {w0 : World}
    (L : Array Bool) (a : Act) (w : World) (hi : SInv D E ops m nb tr ρ0 w0 L a w) {i : Nat} (hr : i ∈ Region.ready .any ops L) {K : Act → World → Prop} {Q : Exit → Act → World → Prop}
    (hK : ∀ a1 w1, SInv D E ops m nb tr ρ0 w0 (L.setIfInBounds i true) a1 w1 → K a1 w1) : wpOp E.P ops Q i K a w := by
  obtain ⟨hun, oi, hoi, hall⟩ := mem_ready.1 hr
  have hip : i < ops.size := (Array.getElem?_eq_some_iff.1 hoi).1
  have hunf := getD_both hun
  have hLsz : i < L.size := by rw [hi.head.size]; exact hip
  obtain ⟨ρ, hmr, hext, hnone, hnew, hold⟩ := hi.ex
  obtain ⟨hnl, hcon⟩ := contents_spec hnb
  have hnl' : nb.length = (alL ops).length := by rw [hnl]; simp [srTab]
  -- the slots that the operation looks at
  have slot : ∀ t, t ∈ oi.looksAt ops → ∀ x y, (tr i)[t]? = some x → a.tmps[t]? = some y → VR ρ x y := by
    intro t htl x y hx hy
    by_cases hex : ∃ j, j < i ∧ DstIs ops j t
    · obtain ⟨j, hj, oj, hoj, hd⟩ := hex
      rcases (slotsB_spec hslots hip (j := j) (by omega) (by omega) hoi hoj hd).2 htl with hw | hw
      · refine hnew t x y ⟨j, by omega, ⟨oj, hoj, hd⟩, ready_of_waits hr hw.2⟩ ?_ hy
        rw [← ht.new hslots (ops.size - i) i (by omega) t ⟨j, hj, oj, hoj, hd⟩]; exact hx
      · omega
    · refine hold t x y ?_ ?_ hy
      · rintro ⟨j, hj, ⟨oj, hoj, hd⟩, hl⟩
        by_cases hji : i = j
        · subst hji
          rw [hunf] at hl; cases hl
        · rcases (slotsB_spec hslots hip hj hji hoi hoj hd).2 htl with hw | hw
          · exact hex ⟨j, hw.1, oj, hoj, hd⟩
          · have := listed_of_waits hi.head hw.2 hl
            rw [hunf] at this; cases this
      · rw [← ht.old i (by omega) t hex]; exact hx
  obtain ⟨v, hv, hg, hcase⟩ := ht.step i oi hoi
  have hop9 := hsr i hip
  unfold srOp at hop9
  simp only [hoi, Bool.and_eq_true] at hop9
  obtain ⟨hok, hop9⟩ := hop9
  -- what holds behind it
  have fin : ∀ v' w1 ρ1, VR ρ1 v v' → ρ.le ρ1 → MR E.P ρ1 (mL E.P ops m nb (L.setIfInBounds i true)) w1 → Ext ρ0 m w0 ρ1 (mL E.P ops m nb (L.setIfInBounds i true)) w1 →
      (∀ k q, (alL ops)[k]? = some q → (L.setIfInBounds i true).getD q false = false → ρ1 (m.length + k) = none) →
      SInv D E ops m nb tr ρ0 w0 (L.setIfInBounds i true) (a.put oi.dst v') w1 := by
    intro v' w1 ρ1 hvv hle hm1 hx1 hnone1
    have hsz1 : (a.put oi.dst v').tmps.size = a.tmps.size := by cases oi.dst <;> simp [Act.put]
    have hother : ∀ t, oi.dst ≠ some t → (a.put oi.dst v').tmps[t]? = a.tmps[t]? := by
      intro t ht9
      cases hd : oi.dst with
      | none => rfl
      | some d =>
        simp only [Act.put, Array.getElem?_setIfInBounds]
        rw [if_neg (fun e => ht9 (by rw [hd, e]))]
    refine ⟨hi.head.set hr hip, by rw [put_defers]; exact hi.defers, by rw [hsz1]; exact hi.size, ρ1, hm1, hx1, hnone1, ?_, ?_⟩
    · rintro t x y ⟨j, hj, ⟨oj, hoj, hd⟩, hl⟩ hx hy
      by_cases hji : i = j
      · subst hji
        rw [hoi] at hoj; cases hoj
        rw [← ht.new hslots (ops.size - (i + 1)) (i + 1) (by omega) t ⟨i, by omega, oi, hoi, hd⟩, hv, hd] at hx
        rw [hd] at hy
        have htl : t < (tr i).length := by
          have := (List.getElem?_eq_some_iff.1 hx).1
          rw [aput_length] at this; exact this
        rw [aput_same htl] at hx
        have ht2 : t < a.tmps.size := by rw [← hi.size, ← ht.length i (by omega)]; exact htl
        simp only [Act.put, Array.getElem?_setIfInBounds, ht2, if_true] at hy
        cases hx; cases hy
        exact hvv
      · have hne : oi.dst ≠ some t := (slotsB_spec hslots hip hj hji hoi hoj hd).1
        rw [hother t hne] at hy
        rw [getD_set_ne false hji] at hl
        exact (hnew t x y ⟨j, hj, ⟨oj, hoj, hd⟩, hl⟩ hx hy).mono hle
    · intro t x y hno hx hy
      have hne : oi.dst ≠ some t := fun hd => hno ⟨i, hip, ⟨oi, hoi, hd⟩, getD_set_self hLsz false⟩
      rw [hother t hne] at hy
      refine (hold t x y ?_ hx hy).mono hle
      rintro ⟨j, hj, hd, hl⟩
      refine hno ⟨j, hj, hd, ?_⟩
      by_cases hji : i = j
      · subst hji; exact getD_set_self hLsz false
      · rw [getD_set_ne false hji]; exact hl
  have hsize : (tr i).length = a.tmps.size := by rw [ht.length i (by omega)]; exact hi.size
  have hguard : ∀ b, agd ops (tr i) oi = some b → Region.wanted oi (yielded ops a.tmps) = b := by
    intro b hb
    refine agd_sound hsize (fun j want oj d hg hj hd x y hx hy => slot d ?_ x y hx hy) hb
    unfold Oper.looksAt
    rw [hg]
    apply List.mem_append_right
    simp [hj, hd]
  have hev : ∀ x, x ∈ oi.op.operands.toList → VR ρ (ev (tr i) x) (a.eval x) := by
    intro x hx
    have hok1 : oi.op.operands.toList.all (okOperand E.P) = true := by
      have h := hok
      simp only [okOp, Bool.and_eq_true] at h
      exact h.1
    cases x with
    | tmp t =>
      have htl : t ∈ oi.looksAt ops := by
        unfold Oper.looksAt
        apply List.mem_append_left
        exact List.mem_filterMap.2 ⟨.tmp t, hx, rfl⟩
      simp only [ev, nth_eq, Act.eval]
      by_cases hlt : t < (tr i).length
      · have h1 : (tr i)[t]? = some (tr i)[t] := by simp [hlt]
        have hlt' : t < a.tmps.size := by rw [← hsize]; exact hlt
        have h2 : a.tmps[t]? = some a.tmps[t] := by simp [hlt']
        have := slot t htl _ _ h1 h2
        simpa [List.getD, h1, Array.getD, hlt'] using this
      · have h' : ¬ t < a.tmps.size := by rw [← hsize]; exact hlt
        rw [show (tr i).getD t undef = undef by simp [List.getD, List.getElem?_eq_none (Nat.le_of_not_lt hlt)]]
        simp only [Array.getD, h', dite_false]
        exact vr_undef ρ
    | const k => exact ev_vr (T := []) (a := { tmps := #[], defers := [] }) hmr ⟨rfl, fun i x y hx => by simp at hx⟩ (.const k) ((List.all_eq_true.1 hok1) _ hx)
    | global g => exact ev_vr (T := []) (a := { tmps := #[], defers := [] }) hmr ⟨rfl, fun i x y hx => by simp at hx⟩ (.global g) ((List.all_eq_true.1 hok1) _ hx)
    | func f => exact .lit rfl
  unfold wpOp
  simp only [hoi]
  rw [hguard true hg]
  simp only [if_true]
  left
  -- who makes no variable, and lays nothing into one
  have plain : isAl ops i = false → (∀ s, stIdx ops s ≠ some i) → mL E.P ops m nb (L.setIfInBounds i true) = mL E.P ops m nb L := by
    intro h1 h2
    refine mL_ext fun k hk => bl_other hLsz (fun h => ?_) (fun q hq h => ?_)
    · rw [(alL_is h).2] at h1; cases h1
    · unfold stOf at h
      split at h
      · split at h
        · exact h2 _ h
        · cases h
      · cases h
  have nonef : ∀ k q, (alL ops)[k]? = some q → (L.setIfInBounds i true).getD q false = false → ρ (m.length + k) = none := by
    intro k q hq hl
    rw [getD_put hLsz] at hl
    split at hl
    · cases hl
    · exact hnone k q hq hl
  have notSt : (∀ t x y, oi.op ≠ .store t x y) → ∀ s, stIdx ops s ≠ some i := by
    intro h s hst
    have := (stIdx_is hst).2
    unfold isSt at this
    rw [hoi] at this
    simp only at this
    split at this
    · rename_i t q y hop; exact h t _ y hop
    · cases this
  have notAl : (∀ t, oi.op ≠ .alloc t) → isAl ops i = false := by
    intro h
    cases hb : isAl ops i with
    | false => rfl
    | true =>
      unfold isAl at hb
      rw [hoi] at hb
      simp only at hb
      first
        | cases hb
        | (split at hb <;> first | cases hb | (rename_i t hop; exact absurd hop (h t)))
  rcases hcase with ⟨⟨t, hop⟩, rfl⟩ | ⟨⟨t, x, y, hop, ad, had⟩, rfl⟩ | ⟨hna, hns, hcl, hfl⟩ | ⟨hna, hns, hcl, hbel, m1, hstep, hml⟩
  · -- a new variable
    have ha : isAl ops i = true := by simp [isAl, hoi, hop]
    have hk := alL_rank hip ha
    obtain ⟨k, hke⟩ : ∃ k, rank ops i = k := ⟨_, rfl⟩
    rw [hke] at hk
    have hkl : k < nb.length := by rw [hnl']; exact (List.getElem?_eq_some_iff.1 hk).1
    simp only [hop] at hop9
    obtain ⟨d, hd⟩ := Option.isSome_iff_exists.1 hop9
    -- what is laid into it isn't yet
    have hst : ∀ j, stOf ops i = some j → L.getD j false = false := by
      intro j hj
      unfold stOf at hj
      simp only [hoi, hd] at hj
      obtain ⟨hjs, hj2⟩ := stIdx_is hj
      have hoj : ops[j]? = some ops[j] := by simp
      have hsj := hsr j hjs
      unfold srOp at hsj
      unfold isSt at hj2
      rw [hoj] at hj2 hsj
      simp only at hj2
      split at hj2
      · rename_i t2 q y2 hop2
        have hqd : q = d := by simpa using hj2
        subst hqd
        have hne : j ≠ i := by
          intro e
          subst e
          rw [hoi] at hoj
          cases hoj
          rw [hop] at hop2
          cases hop2
        have hlook : q ∈ (ops[j]).looksAt ops := by
          unfold Oper.looksAt
          apply List.mem_append_left
          rw [hop2]
          exact List.mem_filterMap.2 ⟨.tmp q, by simp [Op.operands], rfl⟩
        simp only [hop2, Bool.and_eq_true, List.any_eq_true, List.mem_range] at hsj
        obtain ⟨_, _, _, ⟨q2, hq2, hq3, hq4⟩, _⟩ := hsj
        have hq2i : q2 = i := by
          apply Classical.byContradiction
          intro hne2
          cases ho2 : ops[q2]? with
          | none => rw [ho2] at hq4; simp at hq4
          | some o2 =>
            rw [ho2] at hq4
            have hd2 : o2.dst = some q := by simpa using hq4
            exact (slotsB_spec hslots (i := i) (j := q2) hip (by omega) (fun e => hne2 e.symm) hoi ho2 hd2).1 hd
        subst hq2i
        rcases (slotsB_spec hslots (i := j) (j := q2) hjs hip hne hoj hoi hd).2 hlook with hw | hw
        · cases hl : L.getD j false with
          | false => rfl
          | true =>
            have := listed_of_waits hi.head hw.2 hl
            rw [hunf] at this; cases this
        · omega
      · cases hj2
    -- its block, before and behind
    have hb0 : bl E.P ops nb L k = .dead := by
      unfold bl
      simp only [hk, hunf]
    obtain ⟨b, hb, hcb⟩ := hcon k (srRow ops i) (by simp [srTab, hk])
    have hrow1 : (srRow ops i).1 = t := by simp [srRow, hoi, hop]
    rw [hrow1] at hcb
    have hz : ∃ z, zeroB E.P t = some z := by
      unfold content at hcb
      split at hcb
      · rename_i b0 hb0; exact ⟨b0, hb0⟩
      · cases hcb
    obtain ⟨z, hz⟩ := hz
    have hb1 : bl E.P ops nb (L.setIfInBounds i true) k = z := by
      unfold bl
      simp only [hk, getD_set_self hLsz false]
      cases hs0 : stOf ops i with
      | none =>
        simp only
        have : (srRow ops i).2 = none := by simp [srRow, hs0]
        rw [this] at hcb
        unfold content at hcb
        simp only [hz, Option.some.injEq] at hcb
        rw [List.getD_eq_getElem?_getD, hb, hcb]
        rfl
      | some j =>
        have hji : j ≠ i := by
          intro e
          subst e
          unfold stOf at hs0
          simp only [hoi, hd] at hs0
          exact notSt (fun t x y h => by rw [hop] at h; cases h) _ hs0
        simp only
        rw [getD_put hLsz, if_neg hji, hst j hs0]
        simp only [hrow1, hz]
        rfl
    obtain ⟨l, ti, c, rfl, hinfo, hcl, hlit, hrun⟩ := zero_spec hz w
    have hset : mL E.P ops m nb (L.setIfInBounds i true) = (mL E.P ops m nb L).set (m.length + k) (.row false t l) := by
      rw [← hb1]
      refine mL_set hkl fun j hj hjk => bl_other hLsz (fun h => hjk (alL_inj h hk)) (fun q hq h => ?_)
      unfold stOf at h
      split at h
      · split at h
        · exact notSt (fun t x y h => by rw [hop] at h; cases h) _ h
        · cases h
      · cases h
    have hdead : (mL E.P ops m nb L)[m.length + k]? = some .dead := by rw [mL_new hkl, hb0]
    have hρk := hnone k i hk hunf
    have hexec : (execOp a.eval oi).run E.P w = .ok (.value (.pointer (some ⟨w.heap.size, 0, none⟩))) (w.alloc (.cells c t (0, 0))) := by
      simp [execOp, hop, hrun]
    unfold Oper.wp
    rw [hexec]
    refine hK _ _ (fin _ _ (ρ.put (m.length + k) ⟨w.heap.size, c.size, ti.size⟩) (VR.ptr (x := ⟨w.heap.size, c.size, ti.size⟩) (by simp [Ren.put, hke])) (Ren.le_put hρk) ?_ ?_ ?_)
    · rw [hset]
      refine hmr.allocAt hdead hρk (0, 0) (loose_zero _) (by rw [hinfo]; rfl) (by rw [← hcl]; simp) (fun j u hu => ⟨u, ?_, .lit (lit2_of_lit1 (lit1_of_lit0 ((List.all_eq_true.1 hlit) u (List.mem_of_getElem? hu))))⟩)
      rw [← hcl] at hu
      simpa using hu
    · rw [hset]
      exact hext.allocAt (by omega) hρk
    · intro k' q hq hl
      have hne : m.length + k' ≠ m.length + k := by
        intro e
        have : k' = k := by omega
        subst this
        rw [hk] at hq
        cases hq
        rw [getD_set_self hLsz false] at hl
        cases hl
      unfold Ren.put
      rw [if_neg hne]
      exact nonef k' q hq hl
  · -- what is laid into one
    simp only [hop] at hop9
    cases x with
    | tmp s =>
      simp only [Bool.and_eq_true, List.any_eq_true, List.mem_range, beq_iff_eq] at hop9
      obtain ⟨hdn, hsi, ⟨q, hqi, hqa, hqd⟩, hy9⟩ := hop9
      cases hoq : ops[q]? with
      | none => rw [hoq] at hqd; cases hqd
      | some oq =>
        rw [hoq] at hqd
        have hqd : oq.dst = some s := by simpa using hqd
        have hqs : q < ops.size := by omega
        have hk := alL_rank hqs hqa
        -- the slot holds the variable's place
        have hTq : (tr i)[s]? = some (.pointer (some ⟨m.length + rank ops q, 0, none⟩)) := by
          have e1 : (tr i)[s]? = (tr (q + 1))[s]? := by
            rw [ht.new hslots (ops.size - i) i (by omega) s ⟨q, hqi, oq, hoq, hqd⟩, ← ht.new hslots (ops.size - (q + 1)) (q + 1) (by omega) s ⟨q, by omega, oq, hoq, hqd⟩]
          obtain ⟨vq, hvq, hgq, hcq⟩ := ht.step q oq hoq
          have hvv : vq = .pointer (some ⟨m.length + rank ops q, 0, none⟩) := by
            unfold isAl at hqa
            rw [hoq] at hqa
            simp only at hqa
            split at hqa
            · rename_i tq hopq
              rcases hcq with ⟨_, h⟩ | ⟨⟨t2, x2, y2, h, _⟩, _⟩ | ⟨h, _⟩ | ⟨h, _⟩
              · exact h
              · rw [hopq] at h; cases h
              · exact absurd hopq (h tq)
              · exact absurd hopq (h tq)
            · cases hqa
          have hsl : s < (tr q).length := by
            rw [ht.length q (by omega), ← ht.length i (by omega)]
            by_cases hlt : s < (tr i).length
            · exact hlt
            · exfalso
              simp only [ev, nth_eq] at had
              rw [List.getD_eq_getElem?_getD, List.getElem?_eq_none (Nat.le_of_not_lt hlt)] at had
              cases had
          rw [e1, hvq, hqd, hvv, aput_same hsl]
        generalize rank ops q = k at hk hTq
        have hkl : k < nb.length := by rw [hnl']; exact (List.getElem?_eq_some_iff.1 hk).1
        have hevx : ev (tr i) (.tmp s) = .pointer (some ⟨m.length + k, 0, none⟩) := by
          simp only [ev, nth_eq]
          rw [List.getD_eq_getElem?_getD, hTq]
          rfl
        -- the variable is made
        have hql : L.getD q false = true := by
          have hlook : s ∈ oi.looksAt ops := by
            unfold Oper.looksAt
            apply List.mem_append_left
            rw [hop]
            exact List.mem_filterMap.2 ⟨.tmp s, by simp [Op.operands], rfl⟩
          rcases (slotsB_spec hslots (i := i) (j := q) hip hqs (by omega) hoi hoq hqd).2 hlook with hw | hw
          · exact ready_of_waits hr hw.2
          · omega
        have hsof : stOf ops q = some i := by simp [stOf, hoq, hqd, hsi]
        obtain ⟨b, hb, hcb⟩ := hcon k (srRow ops q) (by simp [srTab, hk])
        have hrow2 : (srRow ops q).2 = some (t, y) := by simp [srRow, hsof, stRow, hoi, hop]
        rw [hrow2] at hcb
        unfold content at hcb
        cases hz : zeroB E.P (srRow ops q).1 with
        | none => rw [hz] at hcb; cases hcb
        | some z =>
          simp only [hz] at hcb
          have hevy : ev (tr ops.size) y = ev (tr i) y := by
            cases y with
            | tmp r =>
              simp only [ev, nth_eq]
              have : (tr i)[r]? = (tr ops.size)[r]? := by
                by_cases hex : ∃ j, j < i ∧ DstIs ops j r
                · exact ht.new hslots (ops.size - i) i (by omega) r hex
                · rw [ht.old i (by omega) r hex, ht.old ops.size (Nat.le_refl _) r ?_]
                  rintro ⟨j, hj, oj, hoj, hdj⟩
                  simp only [List.all_eq_true, List.mem_range] at hy9
                  have := hy9 j hj
                  rw [hoj] at this
                  simp only [Option.bind_some, hdj, bne_self_eq_false, Bool.or_false, decide_eq_true_eq] at this
                  by_cases hji : j = i
                  · subst hji
                    rw [hoi] at hoj
                    cases hoj
                    rw [hdn] at hdj
                    cases hdj
                  · exact hex ⟨j, by omega, oj, hoj, hdj⟩
              rw [List.getD_eq_getElem?_getD, List.getD_eq_getElem?_getD, this]
            | const c => rfl
            | global g => rfl
            | func f => rfl
          rw [hevy] at hcb
          split at hcb
          · rename_i b1 hst1
            cases hcb
            have hb0 : bl E.P ops nb L k = z := by
              unfold bl
              simp only [hk, hql, hsof, hunf, hz]
              rfl
            have hb1 : bl E.P ops nb (L.setIfInBounds i true) k = b := by
              unfold bl
              simp only [hk, hsof]
              rw [getD_put hLsz, getD_put hLsz, if_neg (by omega), hql, if_pos rfl, List.getD_eq_getElem?_getD, hb]
              rfl
            have hset : mL E.P ops m nb (L.setIfInBounds i true) = (mL E.P ops m nb L).set (m.length + k) b := by
              rw [← hb1]
              refine mL_set hkl fun j hj hjk => bl_other hLsz (fun h => ?_) (fun q' hq' h => ?_)
              · have := (alL_is h).2
                simp [isAl, hoi, hop] at this
              · unfold stOf at h
                split at h
                · rename_i o' ho'
                  split at h
                  · rename_i d' hd'
                    have h2 := (stIdx_is h).2
                    simp only [isSt, hoi, hop, beq_iff_eq] at h2
                    subst h2
                    by_cases hqq : q' = q
                    · subst hqq
                      exact hjk (alL_inj hq' hk)
                    · exact (slotsB_spec hslots (i := q') (j := q) (alL_is hq').1 hqs hqq ho' hoq hqd).1 hd'
                  · cases h
                · cases h
            have hast := astore_one hst1 (m := mL E.P ops m nb L) (b := m.length + k) (by rw [mL_new hkl, hb0])
            have hstep : astep E self (tr i) (mL E.P ops m nb L) oi = some (undef, (mL E.P ops m nb L).set (m.length + k) b) := by
              unfold astep
              simp only [hop]
              unfold aop
              simp only [hop, hevx, hast]
              rfl
            refine astep_wp hs hnum hx9 hmr hev hok hstep fun v' w1 ρ1 hvv hm1 hx1 => hK _ _ ?_
            have hsame : ∀ j, ρ1 j = ρ j := by
              intro j
              by_cases hlt : j < (mL E.P ops m nb L).length
              · exact hx1.same j hlt
              · rw [hm1.dom j (by rw [List.length_set]; omega), hmr.dom j (by omega)]
            refine fin v' w1 ρ1 .junk hx1.le (by rw [hset]; exact hm1) (by rw [hset]; exact hext.trans hx1) (fun k' q' hq' hl => by rw [hsame]; exact nonef k' q' hq' hl)
          · cases hcb
    | const c => simp at hop9
    | global g => simp at hop9
    | func f => simp at hop9
  · obtain ⟨v', hrun, hvv⟩ := afloat_sound (w := w) hev hok hfl
    unfold Oper.wp
    rw [hrun]
    have hpl := plain (notAl hna) (notSt hns)
    exact hK _ _ (fin v' w ρ hvv (Ren.le_refl _) (by rw [hpl]; exact hmr) (by rw [hpl]; exact hext) nonef)
  · have hms := mr_sealed hmr
    have hpl := plain (notAl hna) (notSt hns)
    have hlk : ∀ b, b < m.length → look (mL E.P ops m nb L) b = look m b := by
      intro b hb
      unfold look
      rw [mL_old hb]
    have hstep' : ∃ m2, astep E self (tr i) ((mL E.P ops m nb L).map sealed) oi = some (v, m2) ∧ m2.length = (mL E.P ops m nb L).length := by
      rcases hbel with hbb | ⟨hic, hla⟩
      · unfold belowB at hbb
        split at hbb
        · rename_i t x hop
          split at hbb
          · rename_i ad hp
            have hb : ad.block < m.length := by simpa using hbb
            have hst9 : (aload E.P t (ev (tr i) x) (m.map sealed)).map (·, m.map sealed) = some (v, m1) := by
              have := hstep
              unfold astep at this
              simp only [hop] at this
              unfold aop at this
              simp only [hop] at this
              exact this
            obtain ⟨hld9, rfl⟩ := map_pair hst9
            have hptr : ∃ b o, ev (tr i) x = .pointer (some ⟨b, o, none⟩) := by
              unfold aload at hld9
              split at hld9
              · rename_i b o hp; exact ⟨b, o, hp⟩
              · cases hld9
            obtain ⟨b, o, hp'⟩ := hptr
            rw [hp] at hp'
            cases hp'
            refine ⟨(mL E.P ops m nb L).map sealed, ?_, by simp⟩
            unfold astep
            simp only [hop]
            unfold aop
            simp only [hop]
            rw [hp] at hld9 ⊢
            rw [aload_look (m' := m.map sealed) (by rw [look_sealed, look_sealed, hlk _ hb]), hld9]
            rfl
          · cases hbb
        · cases hbb
      · unfold isCall at hic
        split at hic
        · rename_i cc hop
          unfold laterOk at hla
          simp only [hop] at hla
          split at hla
          · rename_i f hcf
            simp only [Bool.and_eq_true, decide_eq_true_eq] at hla
            obtain ⟨hcap, hargs, hlv, hG⟩ := hla
            refine ⟨(mL E.P ops m nb L).map sealed, ?_, by simp⟩
            refine astep_later hop hcf hcap hargs hlv ?_ hstep (by rw [hml]; simp)
            rw [sealed_tabs, sealed_tabs]
            unfold mL
            rw [List.take_append_of_le_length hG]
          · cases hla
        · cases hic
    obtain ⟨m2, hst2, hml2⟩ := hstep'
    refine astep_wp hs hnum hx9 hms hev hok hst2 fun v' w1 ρ1 hvv hm1 hx1 => hK _ _ ?_
    have hle : ρ1.le ρ := by
      intro k x hk
      by_cases hlt : k < ((mL E.P ops m nb L).map sealed).length
      · rw [hx1.same k hlt] at hk; exact hk
      · rw [hm1.dom k (by simp at hlt; omega)] at hk; cases hk
    obtain ⟨hb1, hb2⟩ := mr_below hmr (below_of_sealed hx1)
    exact fin v' w1 ρ (hvv.mono hle) (Ren.le_refl _) (by rw [hpl]; exact hb1) (by rw [hpl]; exact hext.trans hb2) nonef
theorem sr_any {D : List Deferred} {E : Env} {self : Self} (hs : CallOK E.P (ainv E self)) (hnum : noNum E.P) (hx9 : XOK E) {ops : Array Oper} (hedge : edgesB ops = true) (hslots : slotsB ops = true) (hsr : ∀ i, i < ops.size → srOp E.P ops i = true)
    {m : Mem} {nb : List Blk} {tr : Nat → List Value} (ht : STrace E self ops m tr) (hnb : contents E.P (tr ops.size) (srTab ops) = some nb) {ρ0 : Ren} {w0 : World} {Q : Exit → Act → World → Prop} (hQ : ∀ a w, SInv D E ops m nb tr ρ0 w0 (Array.replicate ops.size true) a w → Q .normal a w) :
    ∀ (f : Nat) (L : Array Bool) (a : Act) (w : World), SInv D E ops m nb tr ρ0 w0 L a w → (List.range ops.size).countP (fun i => !L.getD i true) = f → wpAny E.P .any ops Q f L a w
  | 0, L, a, w, hi, hc => by
    have hall : ∀ i, i < ops.size → L.getD i true = true := by
      intro i hip
      rw [List.countP_eq_zero] at hc
      have := hc i (List.mem_range.2 hip)
      simpa using this
    have hL : L = Array.replicate ops.size true := by
      have hsz := hi.head.size
      apply Array.ext
      · simp [hsz]
      · intro i h1 h2
        have h3 := hall i (by omega)
        simp [h1] at h3
        simp [h3]
    refine ⟨?_, hQ a w (hL ▸ hi)⟩
    apply List.eq_nil_iff_forall_not_mem.2
    intro i hr
    obtain ⟨hun, oi, hoi, _⟩ := mem_ready.1 hr
    rw [hall i (Array.getElem?_eq_some_iff.1 hoi).1] at hun
    cases hun
  | f + 1, L, a, w, hi, hc => by
    have hex : ∃ i, i < ops.size ∧ L.getD i true = false := by
      apply Classical.byContradiction
      intro hno
      have : (List.range ops.size).countP (fun i => !L.getD i true) = 0 := by
        rw [List.countP_eq_zero]
        intro i hi'
        have hip := List.mem_range.1 hi'
        have : L.getD i true ≠ false := fun e => hno ⟨i, hip, e⟩
        simpa using this
      omega
    have hleast : ∃ i, i < ops.size ∧ L.getD i true = false ∧ ∀ j, j < i → L.getD j true = true := by
      obtain ⟨i, hip, hif⟩ := hex
      induction i using Nat.strongRecOn with
      | _ i ih =>
        by_cases h1 : ∃ j, j < i ∧ L.getD j true = false
        · obtain ⟨j, hj, hjf⟩ := h1
          exact ih j hj (by omega) hjf
        · refine ⟨i, hip, hif, fun j hj => ?_⟩
          have : L.getD j true ≠ false := fun e => h1 ⟨j, hj, e⟩
          simpa using this
    obtain ⟨i0, hi0, hif0, hmin⟩ := hleast
    have hready : i0 ∈ Region.ready .any ops L := by
      have ho : ops[i0]? = some ops[i0] := by simp
      refine mem_ready.2 ⟨hif0, ops[i0], ho, fun e he hb => ?_⟩
      have h1 := (List.all_eq_true.1 hedge) i0 (List.mem_range.2 (by omega))
      rw [ho] at h1
      simp only at h1
      have h2 := (Array.all_eq_true'.1 h1) e he
      simp only [hb, Bool.not_true, Bool.false_or, decide_eq_true_eq] at h2
      have h3 := hmin e.on h2
      have hlt : e.on < L.size := by rw [hi.head.size]; omega
      simp [hlt] at h3 ⊢; exact h3
    refine ⟨fun hnil => (by rw [hnil] at hready; cases hready), fun i hr => ?_⟩
    refine sr_step hs hnum hx9 hslots hsr ht hnb L a w hi hr fun a1 w1 hi1 => ?_
    refine sr_any hs hnum hx9 hedge hslots hsr ht hnb hQ f _ a1 w1 hi1 ?_
    obtain ⟨hun, oi, hoi, _⟩ := mem_ready.1 hr
    have hip : i < ops.size := (Array.getElem?_eq_some_iff.1 hoi).1
    have hLsz : i < L.size := by rw [hi.head.size]; exact hip
    have := countP_set (p := fun j => !L.getD j true) (q := fun j => !(L.setIfInBounds i true).getD j true) ops.size i hip (by simp [hun]) (by simp [getD_set_self hLsz true]) (fun x hx => by rw [getD_set_ne true (fun e => hx e.symm)])
    omega
theorem asr_sound {E : Env} {self : Self} (hs : CallOK E.P (ainv E self)) (hnum : noNum E.P) (hx9 : XOK E) (hmix : E.P.follows .mixedOrders = true) {ops : Array Oper} (hok : srOkB E.P ops = true) {T T1 : List Value} {m m1 : Mem}
    (h : asr E self ops T m = some (T1, m1)) (id : Nat) {D : List Deferred} (ρ : Ren) (w : World) (a : Act) (hd : a.defers = D) (hm : MR E.P ρ m w) (ht : TR ρ T a.tmps) :
    (Code.region id ops true).wp E.P (fun e a1 w1 => e = .normal ∧ Post D E.P ρ m w T1 m1 a1 w1) a w := by
  simp only [srOkB, Bool.and_eq_true, List.all_eq_true, List.mem_range] at hok
  obtain ⟨_, hedge, hslots, hsr⟩ := hok
  unfold asr at h
  split at h
  · rename_i T2 hT2
    split at h
    · rename_i nb hnb
      cases h
      have hr0 : rank ops 0 = 0 := rfl
      obtain ⟨tr, h0, h1, hst⟩ := asrT_trace (E := E) (self := self) (ops := ops) (m := m) ops.toList 0 T T1 (by simp) (by rw [hr0]; exact hT2)
      have hlen : ops.toList.length = ops.size := by simp
      rw [hlen] at h1
      have htr : STrace E self ops m tr := ⟨fun i o ho => by
        have := hst i o (by simpa using ho)
        rw [Nat.zero_add] at this
        exact this⟩
      have hnb' : contents E.P (tr ops.size) (srTab ops) = some nb := by rw [h1]; exact hnb
      refine wp_region_any hmix ?_
      have hcnt : (List.range ops.size).countP (fun i => !(Array.replicate ops.size false).getD i true) = ops.size := by
        have : ∀ q, q ≤ ops.size → (List.range q).countP (fun i => !(Array.replicate ops.size false).getD i true) = q := by
          intro q
          induction q with
          | zero => intro _; rfl
          | succ q ih =>
            intro hq
            rw [List.range_succ, List.countP_append, ih (by omega)]
            have hlt : q < ops.size := by omega
            simp [hlt]
        exact this _ (Nat.le_refl _)
      have hnl : nb.length = (alL ops).length := by rw [(contents_spec hnb).1]; simp [srTab]
      refine sr_any hs hnum hx9 hedge hslots hsr htr hnb' (D := D) (ρ0 := ρ) (w0 := { w with drawn := w.drawn + 1 }) (fun a2 w2 hi2 => ⟨rfl, ?fin⟩) ops.size (Array.replicate ops.size false) a { w with drawn := w.drawn + 1 } ?start hcnt
      case fin =>
        obtain ⟨ρ1, hmr, hext, hnone, hnew, hold⟩ := hi2.ex
        have hmL : mL E.P ops m nb (Array.replicate ops.size true) = m ++ nb := by
          unfold mL
          congr 1
          apply List.ext_getElem?
          intro k
          rw [List.getElem?_map]
          by_cases hk : k < nb.length
          · rw [List.getElem?_range hk]
            have hka : (alL ops)[k]? = some (alL ops)[k] := by simp [← hnl, hk]
            have hin := (alL_is hka).1
            have hb : bl E.P ops nb (Array.replicate ops.size true) k = nb[k] := by
              unfold bl
              rw [hka]
              simp only
              have e1 : ∀ j, j < ops.size → (Array.replicate ops.size true).getD j false = true := fun j hj => by simp [hj]
              rw [e1 _ hin]
              simp only
              have e2 : (match stOf ops (alL ops)[k] with | some j => (Array.replicate ops.size true).getD j false | none => true) = true := by
                cases hs0 : stOf ops (alL ops)[k] with
                | none => rfl
                | some j =>
                  simp only
                  refine e1 j ?_
                  unfold stOf at hs0
                  split at hs0
                  · split at hs0
                    · exact (stIdx_is hs0).1
                    · cases hs0
                  · cases hs0
              rw [e2]
              simp [List.getD_eq_getElem?_getD, hk]
            simp [hb, hk]
          · rw [List.getElem?_eq_none (by simp; omega), List.getElem?_eq_none (by omega)]
            rfl
        rw [hmL] at hmr hext
        refine ⟨hi2.defers, ρ1, ⟨by rw [← h1, htr.length _ (Nat.le_refl _)]; exact hi2.size, fun t x y hx hy => ?_⟩, hmr, ((Ext.refl' w hm.dom).drawn (w.drawn + 1)).trans hext⟩
        rw [← h1] at hx
        by_cases hex : ∃ j, j < ops.size ∧ DstIs ops j t
        · obtain ⟨j, hj, hdj⟩ := hex
          exact hnew t x y ⟨j, hj, hdj, by simp [hj]⟩ hx hy
        · refine hold t x y (fun ⟨j, hj, hdj, _⟩ => hex ⟨j, hj, hdj⟩) ?_ hy
          rw [← htr.old _ (Nat.le_refl _) t hex]; exact hx
      case start =>
        have hdead : ∀ b ∈ (List.range nb.length).map (bl E.P ops nb (Array.replicate ops.size false)), b = .dead := by
          intro b hb
          obtain ⟨k, hk, rfl⟩ := List.mem_map.1 hb
          unfold bl
          cases (alL ops)[k]? with
          | none => rfl
          | some i => simp only [getD_replicate_false]
        have hnone : ∀ k, ρ (m.length + k) = none := fun k => hm.dom _ (by omega)
        refine ⟨⟨by simp, fun j oj _ hl => (by rw [getD_replicate_false] at hl; cases hl), fun t h8 h9 => (by omega)⟩, hd, by rw [h0]; exact ht.size, ρ, (hm.drawn _).deads hdead, ?_,
          fun k i _ _ => hnone k, fun t x y ⟨j, _, _, hl⟩ => (by rw [getD_replicate_false] at hl; cases hl), fun t x y _ hx hy => (by rw [h0] at hx; exact ht.at_ t x y hx hy)⟩
        refine ⟨Ren.le_refl _, fun _ _ => rfl, by simp [mL], fun k x hk hx => (by rw [hm.dom k hk] at hx; cases hx), rfl, rfl, rfl, Nat.le_refl _, fun _ _ _ => rfl, fun k e cs x hb hx => ?_⟩
        right
        by_cases hk : k < m.length
        · rw [mL_old hk] at hb
          exact ⟨k, e, cs, x, hb, hx, rfl⟩
        · rw [hm.dom k (by omega)] at hx; cases hx
    · cases h
  · cases h
end
end Go.Am
namespace Go.Am
noncomputable section
theorem vr_tuple_inv {ρ : Ren} {l : List Value} {v' : Value} (h : VR ρ (.tuple ⟨l⟩) v') : ∃ l' : List Value, v' = .tuple ⟨l'⟩ ∧ l.length = l'.length ∧ ∀ (i : Nat) (x y : Value), l[i]? = some x → l'[i]? = some y → VR ρ x y := by
  cases h with
  | lit h =>
    refine ⟨l, rfl, rfl, fun i x y hx hy => ?_⟩
    rw [hx] at hy; cases hy
    simp only [lit2] at h
    exact .lit (lit2_of_lit1 ((List.all_eq_true.1 h) x (List.mem_of_getElem? hx)))
  | tuple hn hx => exact ⟨_, rfl, hn, hx⟩
def belowC (n : Nat) : Nat → Value → Bool
  | _, .pointer (some a) => decide (a.block < n)
  | _, .slice (some a) _ _ => decide (a.block < n)
  | d + 1, .agg cs => cs.toList.all (belowC n d)
  | d + 1, .tuple cs => cs.toList.all (belowC n d)
  | d + 1, .func _ a b => a.toList.all (belowC n d) && b.toList.all (belowC n d)
  | _, v => lit2 v
theorem belowC_vr {n : Nat} {ρ ρ0 : Ren} (h : ∀ k, k < n → ρ k = ρ0 k) : ∀ (d : Nat) {x y : Value}, belowC n d x = true → VR ρ x y → VR ρ0 x y := by
  intro d
  induction d with
  | zero =>
    intro x y hb hv
    unfold belowC at hb
    split at hb
    · obtain ⟨b, o, z, rfl, hz, rfl⟩ := vr_ptr_some hv
      rw [h b (by simpa using hb)] at hz
      exact .ptr hz
    · rename_i a l c
      cases hv with
      | lit hl => simp [lit2, lit1, lit0] at hl
      | slice hz hc => rw [h _ (by simpa using hb)] at hz; exact .slice hz hc
    · exfalso; omega
    · exfalso; omega
    · exfalso; omega
    · rw [hv.eq_of_lit2 hb]; exact .lit hb
  | succ d ih =>
    intro x y hb hv
    have each : ∀ {l l' : List Value}, l.all (belowC n d) = true → (∀ (i : Nat) (x y : Value), l[i]? = some x → l'[i]? = some y → VR ρ x y) → ∀ (i : Nat) (x y : Value), l[i]? = some x → l'[i]? = some y → VR ρ0 x y :=
      fun hl hx i x y h1 h2 => ih ((List.all_eq_true.1 hl) x (List.mem_of_getElem? h1)) (hx i x y h1 h2)
    unfold belowC at hb
    split at hb
    · obtain ⟨b, o, z, rfl, hz, rfl⟩ := vr_ptr_some hv
      rw [h b (by simpa using hb)] at hz
      exact .ptr hz
    · rename_i a l c
      cases hv with
      | lit hl => simp [lit2, lit1, lit0] at hl
      | slice hz hc => rw [h _ (by simpa using hb)] at hz; exact .slice hz hc
    · rename_i d' cs h0
      cases h0
      obtain ⟨l', rfl, hn, hx⟩ := vr_agg_inv (l := cs.toList) hv
      exact .agg hn (each hb hx)
    · rename_i d' cs h0
      cases h0
      obtain ⟨l', rfl, hn, hx⟩ := vr_tuple_inv (l := cs.toList) hv
      exact .tuple hn (each hb hx)
    · rename_i d' fn a b h0
      cases h0
      simp only [Bool.and_eq_true] at hb
      obtain ⟨a', b', rfl, hn, hx, hk, hy⟩ := vr_func_inv (a := a.toList) (b := b.toList) hv
      exact .func hn (each hb.1 hx) hk (each hb.2 hy)
    · rw [hv.eq_of_lit2 hb]; exact .lit hb
def acollAt (n N : Nat) (v : Value) (m1 : Mem) : Option (Value × List Blk) :=
  if lit2 v then some (v, []) else
    let keep := closeIds n m1 2 (idsL n (partsOf v) [])
    if nodupB keep && keep.all (fun b => decide (n ≤ b)) then
      match renB n N keep m1 keep with
      | some bs => match ren3 n N keep v with
        | some v' => some (v', bs)
        | none => none
      | none => none
    else none
def setAll (M : Mem) (N : Nat) (bs : List Blk) : Mem := M.take N ++ bs ++ M.drop (N + bs.length)
theorem setAll_length {M : Mem} {N : Nat} {bs : List Blk} (h : N + bs.length ≤ M.length) : (setAll M N bs).length = M.length := by
  unfold setAll
  simp
  omega
theorem setAll_get {M : Mem} {N : Nat} {bs : List Blk} (h : N + bs.length ≤ M.length) (k : Nat) : (setAll M N bs)[k]? = if N ≤ k ∧ k < N + bs.length then bs[k - N]? else M[k]? := by
  unfold setAll
  have hN : (M.take N).length = N := by simp; omega
  by_cases h1 : k < N
  · rw [if_neg (by omega), List.append_assoc, List.getElem?_append_left (by omega), List.getElem?_take, if_pos h1]
  · by_cases h2 : k < N + bs.length
    · rw [if_pos ⟨by omega, h2⟩, List.append_assoc, List.getElem?_append_right (by omega), hN, List.getElem?_append_left (by omega)]
    · rw [if_neg (by omega), List.getElem?_append_right (by simp; omega), List.getElem?_drop]
      congr 1
      simp
      omega
theorem acollAt_sound {P : Program} {ρ ρ0 ρv ρ1 : Ren} {m0 M mv m1 : Mem} {w0 w w1 : World} {n N : Nat} {v v' v2 : Value} {bs : List Blk} (hm : MR P ρ M w) (hx0 : Ext ρ0 m0 w0 ρ M w) (h0N : m0.length ≤ N) (hn : n = mv.length) (hnN : n ≤ N)
    (hρ : ∀ k x, ρv k = some x → ρ k = some x) (hro : ∀ (k : Nat) (e : TypeId) (cs : List Value), mv[k]? ≠ some (Blk.row false e cs)) (hm1 : MR P ρ1 m1 w1) (hx : Ext ρv mv w ρ1 m1 w1) (hv : VR ρ1 v v')
    (h : acollAt n N v m1 = some (v2, bs)) (hfit : N + bs.length ≤ M.length) (hdead : ∀ j, j < bs.length → M[N + j]? = some .dead ∧ ρ (N + j) = none) :
    ∃ ρ2, VR ρ2 v2 v' ∧ ρ.le ρ2 ∧ MR P ρ2 (setAll M N bs) w1 ∧ Ext ρ0 m0 w0 ρ2 (setAll M N bs) w1 ∧ ∀ k, ¬ (N ≤ k ∧ k < N + bs.length) → ρ2 k = ρ k := by
  have hheap : ∀ r, r < w.heap.size → w1.heap[r]? = w.heap[r]? := fun r hr => hx.kept r hr fun k e cs x hk _ => absurd hk (hro k e cs)
  have hfresh : ∀ k x, n ≤ k → ρ1 k = some x → w.heap.size ≤ x.r := by
    intro k x hk hkx
    rcases hx.fresh k x (by omega) hkx with h1 | ⟨k0, e0, cs0, _, h0, _⟩
    · exact h1
    · exact absurd h0 (hro k0 e0 cs0)
  have hmw : MR P ρ M w1 := by
    refine ⟨hm.dom, fun k x hk => Nat.lt_of_lt_of_le (hm.bnd k x hk) hx.size, hm.glob, fun k ro e cs hk => ?_, hm.inj, hm.tab⟩
    obtain ⟨x, c, fr, h1, h2, h3⟩ := hm.row k ro e cs hk
    exact ⟨x, c, fr, h1, by rw [hheap _ (hm.bnd k x h1)]; exact h2, h3⟩
  have hxt : Ext ρ0 m0 w0 ρ M w1 := hx0.trans ⟨Ren.le_refl _, fun _ _ => rfl, Nat.le_refl _, fun k x hk hx' => by (rw [hm.dom k hk] at hx'; cases hx'), hx.os, hx.tape, hx.output, hx.size, fun r hr _ => hheap r hr, fun k e cs x hk hx' => .inr ⟨k, e, cs, x, hk, hx', rfl⟩⟩
  unfold acollAt at h
  split at h
  · rename_i hl
    cases h
    rw [hv.eq_of_lit2 hl]
    have hsa : setAll M N [] = M := by unfold setAll; simp
    rw [hsa]
    exact ⟨ρ, .lit hl, Ren.le_refl _, hmw, hxt, fun k _ => rfl⟩
  · simp only at h
    generalize closeIds n m1 2 (idsL n (partsOf v) []) = keep at h
    split at h
    · rename_i hk
      simp only [Bool.and_eq_true] at hk
      obtain ⟨hnd, hge⟩ := hk
      split at h
      · rename_i bs0 hbs
        split at h
        · rename_i v3 hv3
          cases h
          obtain ⟨hlen, hget⟩ := renB_get hbs
          let ρ2 : Ren := fun k => if N ≤ k ∧ k < N + bs.length then (keep[k - N]?).bind ρ1 else ρ k
          have hold : ∀ k, ¬ (N ≤ k ∧ k < N + bs.length) → ρ2 k = ρ k := fun k hk => by simp only [ρ2, hk, if_false]
          have hnew : ∀ k, N ≤ k ∧ k < N + bs.length → ρ2 k = (keep[k - N]?).bind ρ1 := fun k hk => by simp only [ρ2]; rw [if_pos hk]
          have hle : ρ.le ρ2 := by
            intro k x hk
            by_cases hin : N ≤ k ∧ k < N + bs.length
            · have := (hdead (k - N) (by omega)).2
              rw [show N + (k - N) = k by omega] at this
              rw [this] at hk; cases hk
            · rw [hold k hin]; exact hk
          have hRR : RR n N keep ρ1 ρ2 := by
            refine ⟨fun b x hb hbx => ?_, fun j b hj => ?_⟩
            · rw [hx.same b (by omega)] at hbx
              exact hle _ _ (hρ b x hbx)
            · have hj' : j < keep.length := (List.getElem?_eq_some_iff.1 hj).1
              rw [hnew _ ⟨by omega, by omega⟩, Nat.add_sub_cancel_left, hj]; rfl
          have hcase : ∀ k b, (setAll M N bs)[k]? = some b → (¬ (N ≤ k ∧ k < N + bs.length) ∧ M[k]? = some b) ∨ ((N ≤ k ∧ k < N + bs.length) ∧ bs[k - N]? = some b) := by
            intro k b hb
            rw [setAll_get hfit] at hb
            split at hb
            · rename_i hin; exact .inr ⟨hin, hb⟩
            · rename_i hin; exact .inl ⟨hin, hb⟩
          have hlook : ∀ k q, look (setAll M N bs) k = some q → (¬ (N ≤ k ∧ k < N + bs.length) ∧ look M k = some q) ∨ ((N ≤ k ∧ k < N + bs.length) ∧ ∃ b, bs[k - N]? = some b ∧ b.cells? = some q) := by
            intro k q hq
            unfold look at hq
            split at hq
            · rename_i b hb
              rcases hcase k b hb with ⟨hk, hb⟩ | ⟨hk, hb⟩
              · left; exact ⟨hk, by simp [look, hb, hq]⟩
              · right; exact ⟨hk, b, hb, hq⟩
            · cases hq
          have hkge : ∀ j b, keep[j]? = some b → n ≤ b := fun j b hj => by simpa using (List.all_eq_true.1 hge) b (List.mem_of_getElem? hj)
          have hnewx : ∀ k x, N ≤ k ∧ k < N + bs.length → ρ2 k = some x → ∃ b, keep[k - N]? = some b ∧ ρ1 b = some x := by
            intro k x hk hkx
            rw [hnew k hk] at hkx
            cases hj : keep[k - N]? with
            | none => rw [hj] at hkx; cases hkx
            | some b => rw [hj] at hkx; exact ⟨b, rfl, hkx⟩
          refine ⟨ρ2, ren3_vr hRR hv3 hv, hle, ⟨?_, ?_, fun g hg => (hm.glob g hg).imp fun x hx' => ⟨hle _ _ hx'.1, hx'.2⟩, ?_, ?_, ?_⟩, ⟨Ren.le_trans hx0.le hle, fun k hk => ?_, by rw [setAll_length hfit]; exact hx0.len, ?_, hxt.os, hxt.tape, hxt.output, hxt.size, hxt.kept, ?_⟩, hold⟩
          · intro k hk
            rw [setAll_length hfit] at hk
            rw [hold k (by omega)]
            exact hm.dom k hk
          · intro k x hkx
            by_cases hin : N ≤ k ∧ k < N + bs.length
            · obtain ⟨b, _, hb⟩ := hnewx k x hin hkx
              exact hm1.bnd b x hb
            · rw [hold k hin] at hkx; exact Nat.lt_of_lt_of_le (hm.bnd k x hkx) hx.size
          · intro k ro e cs hb
            rcases hlook k _ hb with ⟨hk, hb'⟩ | ⟨hk, b9, hb', hb9⟩
            · obtain ⟨x, c, fr, h1, h2, h3, h4, h5, h6, h7⟩ := hmw.row k ro e cs hb'
              exact ⟨x, c, fr, hle _ _ h1, h2, h3, h4, fun i u hu => (h5 i u hu).imp fun y hy => ⟨hy.1, hy.2.mono hle⟩, h6, h7⟩
            · obtain ⟨b, ro', e', c1, c2, hj, hmb, hrl, he⟩ := hget _ _ hb'
              subst he
              simp only [Blk.cells?, Option.some.injEq, Prod.mk.injEq] at hb9
              obtain ⟨rfl, rfl, rfl⟩ := hb9
              obtain ⟨x, c, fr, h1, h2, h3, h4, h5, h6, h7⟩ := hm1.row b _ _ c1 (look_row hmb)
              obtain ⟨hl1, hl2⟩ := renL_vr hRR hrl
              refine ⟨x, c, fr, by rw [hnew k hk, hj]; exact h1, h2, h3, by omega, fun i u hu => ?_, h6, h7⟩
              obtain ⟨z, hz, hh⟩ := hl2 i u hu
              obtain ⟨y, hy, hyv⟩ := h5 i z hz
              exact ⟨y, hy, hh y hyv⟩
          · intro k e cs k' ro' e' cs' x x' hb hb' hkx hkx' hr
            rcases hcase k _ hb with ⟨hk, hb1⟩ | ⟨hk, hb1⟩
            · rw [hold k hk] at hkx
              rcases hlook k' _ hb' with ⟨hk', hb2⟩ | ⟨hk', b8, hb2, hb8⟩
              · rw [hold k' hk'] at hkx'
                exact hm.inj k e cs k' ro' e' cs' x x' hb1 hb2 hkx hkx' hr
              · obtain ⟨b, hj, hbx⟩ := hnewx k' x' hk' hkx'
                have h1 := hm.bnd k x hkx
                have h2 := hfresh b x' (hkge _ _ hj) hbx
                omega
            · obtain ⟨b, hj, hbx⟩ := hnewx k x hk hkx
              rcases hlook k' _ hb' with ⟨hk', hb2⟩ | ⟨hk', b8, hb2, hb8⟩
              · rw [hold k' hk'] at hkx'
                have h1 := hm.bnd k' x' hkx'
                have h2 := hfresh b x (hkge _ _ hj) hbx
                omega
              · obtain ⟨b', hj', hbx'⟩ := hnewx k' x' hk' hkx'
                obtain ⟨q1, ro1, e1, c1, c1', hq1, hmb1, _, he1⟩ := hget _ _ hb1
                obtain ⟨q2, ro2, e2, c2, c2', hq2, hmb2, _, he2⟩ := hget _ _ hb2
                rw [hj] at hq1; cases hq1
                rw [hj'] at hq2; cases hq2
                cases he1
                subst he2
                have hbb := hm1.inj b _ _ b' ro2 e2 c2 x x' hmb1 (look_row hmb2) hbx hbx' hr
                subst hbb
                have := nodupB_get hnd hj hj'
                omega
          · intro k e cs hb
            rcases hcase k _ hb with ⟨hk, hb1⟩ | ⟨hk, hb1⟩
            · exact hm.tab k e cs hb1
            · obtain ⟨_, _, _, _, _, _, _, _, he⟩ := hget _ _ hb1
              cases he
          · rw [hold k (by omega)]
            exact hx0.same k hk
          · intro k x hk hkx
            by_cases hin : N ≤ k ∧ k < N + bs.length
            · obtain ⟨b, hj, hb⟩ := hnewx k x hin hkx
              left
              have := hfresh b x (hkge _ _ hj) hb
              have := hx0.size
              omega
            · rw [hold k hin] at hkx
              exact hx0.fresh k x hk hkx
          · intro k e cs x hb hkx
            rcases hcase k _ hb with ⟨hk, hb1⟩ | ⟨hk, hb1⟩
            · rw [hold k hk] at hkx
              exact hxt.own k e cs x hb1 hkx
            · obtain ⟨b, hj, hbx⟩ := hnewx k x hk hkx
              left
              have := hfresh b x (hkge _ _ hj) hbx
              have := hx0.size
              omega
        · cases h
      · cases h
    · cases h
end
end Go.Am
