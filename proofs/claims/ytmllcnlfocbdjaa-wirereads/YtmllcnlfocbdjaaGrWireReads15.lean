/-
  Texts of my own, put together: X3, X4, PA, PB, W5.
-/
import Derived.ChangeShapes
import Derived.OpenShut
import Derived.Deep.Slices
import Derived.Deep.Fields
import Derived.Carry
import Derived.Test.YtmllcnlfocbdjaaGrWireReads14
import Derived.ChangeSame
import Derived.ProofKit
import Derived.Test.YtmllcnlfocbdjaaGrWireReads7
import Derived.Defers
import Derived.Recover
/-
  A law's arguments, opened: structs and arrays of plain cells, slices of such; the memory that slices lead to (own work; nothing of a dump).
-/
set_option linter.unusedSimpArgs false
set_option linter.unusedVariables false
namespace Go.Am
open Go.Deep
variable {H : Type} {enc : TypeId × Value → H} {P : Program} {W : World} {base : Nat} {spare : Nat → Bool} {held : Bool}

/-- The kinds of plain cells. -/
inductive CK where
  | bool
  | int (k : IntKind)
  | str

/-- A cell of a kind; texts have at most N bytes. -/
def CK.is (N : Nat) : CK → Value → Prop
  | .bool, v => ∃ b, v = .bool b
  | .int k, v => ∃ n, v = .int k n ∧ (Lit.int k n).wf = true
  | .str, v => ∃ s : ByteArray, v = .string s ∧ s.size ≤ N

/-- What measures data: a text at least by its bytes, a whole at least by its parts. -/
structure BulkOK (bulk : DataW H → Nat) : Prop where
  str : ∀ bytes, bytes.length ≤ bulk (.lit (.string bytes))
  agg : ∀ l d, d ∈ l → bulk d ≤ bulk (.agg l)
  slice : ∀ l r d, d ∈ l → bulk d ≤ bulk (.slice l r)

/-- A measure that says little: the bytes of the greatest text. -/
def bulk0 {H : Type} : DataW H → Nat
  | .lit (.string b) => b.length
  | .agg l => bulkL l
  | .slice l _ => bulkL l
  | _ => 0
where bulkL {H : Type} : List (DataW H) → Nat
  | [] => 0
  | d :: l => bulk0 d + bulkL l

theorem bulkL_le {d : DataW H} : ∀ {l : List (DataW H)}, d ∈ l → bulk0 d ≤ bulk0.bulkL l
  | x :: l, h => by
    simp only [bulk0.bulkL]
    cases List.mem_cons.1 h with
    | inl e => subst e; omega
    | inr e => have := bulkL_le e; omega

theorem bulk0_ok : BulkOK (H := H) bulk0 where
  str := fun b => by simp [bulk0]
  agg := fun l d h => by have := bulkL_le h; simpa [bulk0] using this
  slice := fun l r d h => by have := bulkL_le h; simpa [bulk0] using this

/-- No text in it has more than N bytes: by the language's own bound, or by the measure. -/
def Small (bulk : DataW H → Nat) (N : Nat) (d : DataW H) : Prop := maxLen ≤ N ∨ bulk d ≤ N

theorem Small.part {bulk : DataW H → Nat} (hB : BulkOK bulk) {N : Nat} {l : List (DataW H)} {d : DataW H} (h : Small bulk N (.agg l)) (hd : d ∈ l) : Small bulk N d := by
  rcases h with h | h
  · exact .inl h
  · exact .inr (Nat.le_trans (hB.agg l d hd) h)
theorem Small.elem {bulk : DataW H → Nat} (hB : BulkOK bulk) {N : Nat} {l r : List (DataW H)} {d : DataW H} (h : Small bulk N (.slice l r)) (hd : d ∈ l) : Small bulk N d := by
  rcases h with h | h
  · exact .inl h
  · exact .inr (Nat.le_trans (hB.slice l r d hd) h)

variable {bulk : DataW H → Nat} {N : Nat}

theorem CK.is_lit {N : Nat} {k : CK} {v : Value} (h : k.is N v) : lit0 v = true := by
  cases k with
  | bool => obtain ⟨b, rfl⟩ := h; rfl
  | int k => obtain ⟨n, rfl, _⟩ := h; rfl
  | str => obtain ⟨s, rfl, _⟩ := h; rfl

def ckOf (P : Program) (t : TypeId) : Option CK := match P.underlying t with
  | some .bool => some .bool
  | some (.int k) => some (.int k)
  | some .string => some .str
  | _ => none

theorem ck_trod {t : TypeId} {k : CK} {fuel : Nat} {cs : List Value} {x : DataW H × List MemPlace} (hB : BulkOK bulk) (hN : Small bulk N x.1) (hk : ckOf P t = some k) (h : DataW.trod enc P W base spare held fuel t cs = some x) : ∃ v, cs = [v] ∧ k.is N v ∧ x.2 = [] := by
  unfold ckOf at hk
  split at hk
  · rename_i ht
    cases hk
    obtain ⟨b, rfl, rfl⟩ := DataW.trod_bool ht h
    exact ⟨_, rfl, ⟨b, rfl⟩, rfl⟩
  · rename_i k ht
    cases hk
    obtain ⟨n, rfl, rfl, hw⟩ := DataW.trod_int ht h
    exact ⟨_, rfl, ⟨n, rfl, hw⟩, rfl⟩
  · rename_i ht
    cases hk
    obtain ⟨s, rfl, rfl, hs⟩ := DataW.trod_string ht h
    refine ⟨_, rfl, ⟨s, rfl, ?_⟩, rfl⟩
    rcases hN with hN | hN
    · omega
    · have hN : bulk (.lit (.string s.data.toList)) ≤ N := hN
      have := hB.str s.data.toList
      have e : s.data.toList.length = s.size := rfl
      omega
  · cases hk

/-- The kinds of a type's cells: a plain one, a struct of such, an array of such. -/
def cksOf (P : Program) (t : TypeId) : Option (List CK) := match P.underlying t with
  | some (.struct fs) => if oneCellFields P fs && decide (P.cellsOf t = fs.size) then fs.toList.mapM (fun f => ckOf P f.type) else none
  | some (.array n e) => match ckOf P e with
    | some k => if P.cellsOf t = n ∧ P.cellsOf e = 1 then some (List.replicate n k) else none
    | none => none
  | _ => match ckOf P t with
    | some k => if P.cellsOf t = 1 then some [k] else none
    | none => none

theorem mapM_at {α β : Type} {F : α → Option β} : ∀ {l : List α} {l2 : List β}, l.mapM F = some l2 → l2.length = l.length ∧ ∀ (i : Nat) (x : α), l[i]? = some x → ∃ y, l2[i]? = some y ∧ F x = some y
  | [], l2, h => by simp at h; subst h; exact ⟨rfl, fun i u hu => by simp at hu⟩
  | v :: l, l2, h => by
    rw [List.mapM_cons] at h
    cases h1 : F v with
    | none => rw [h1] at h; cases h
    | some u1 =>
      cases h2 : l.mapM F with
      | none => rw [h1, h2] at h; cases h
      | some l3 =>
        rw [h1, h2] at h
        cases h
        obtain ⟨e, ih⟩ := mapM_at h2
        refine ⟨by simp [e], fun i x hx => ?_⟩
        cases i with
        | zero => simp at hx; subst hx; exact ⟨u1, rfl, h1⟩
        | succ i => simp at hx; obtain ⟨y, hy, hf⟩ := ih i x hx; exact ⟨y, by simpa using hy, hf⟩

theorem flat_nil {α β : Type} {l : List (α × List β)} (h : ∀ (i : Nat) (x : α × List β), l[i]? = some x → x.2 = []) : l.flatMap (·.2) = [] := by
  rw [List.flatMap_eq_nil_iff]
  intro x hx
  obtain ⟨i, hi⟩ := List.getElem?_of_mem hx
  exact h i x hi

/-- What a row of cells that reads at such a type is. -/
theorem cks_trod {t : TypeId} {ks : List CK} {fuel : Nat} {cs : List Value} {x : DataW H × List MemPlace} (hB : BulkOK bulk) (hN : Small bulk N x.1) (hk : cksOf P t = some ks) (h : DataW.trod enc P W base spare held fuel t cs = some x) :
    cs.length = ks.length ∧ x.2 = [] ∧ ∀ (i : Nat) (k : CK) (v : Value), ks[i]? = some k → cs[i]? = some v → k.is N v := by
  unfold cksOf at hk
  split at hk
  · rename_i fs ht
    split at hk
    · rename_i hc
      simp only [Bool.and_eq_true, decide_eq_true_eq] at hc
      obtain ⟨hone, hC⟩ := hc
      obtain ⟨xs, n, _, rfl, hl, hxl, hf⟩ := DataW.trod_struct ht h
      obtain ⟨hkl, hka⟩ := mapM_at hk
      have each : ∀ (i : Nat), i < fs.size → ∃ k v y, ks[i]? = some k ∧ cs[i]? = some v ∧ xs[i]? = some y ∧ k.is N v ∧ y.2 = [] := by
        intro i hi
        have hfi : fs[i]? = some fs[i] := by simp [hi]
        obtain ⟨ho, hc1⟩ := hone_of hone i fs[i] hfi
        have h1 := hf i fs[i] hfi
        obtain ⟨k, hk1, hk2⟩ := hka i fs[i] (by simp [hi])
        have hxi : xs[i]? = some xs[i] := by simp [hxl, hi]
        rw [hxi] at h1
        obtain ⟨v, hv, his, h2⟩ := ck_trod hB (hN.part hB (List.mem_map.2 ⟨_, List.mem_of_getElem? hxi, rfl⟩)) hk2 h1
        refine ⟨k, v, xs[i], hk1, ?_, hxi, his, h2⟩
        rw [hc1, ho] at hv
        have h9 := congrArg (·[0]?) hv
        simp [List.getElem?_take, List.getElem?_drop] at h9
        exact h9
      refine ⟨by rw [hl, hC, hkl]; simp, flat_nil fun i y hy => ?_, fun i k v hk hv => ?_⟩
      · have hi : i < fs.size := by rw [← hxl]; exact (List.getElem?_eq_some_iff.1 hy).1
        obtain ⟨_, _, y', _, _, e, _, h2⟩ := each i hi
        rw [hy] at e; cases e; exact h2
      · have hi : i < fs.size := by
          have := (List.getElem?_eq_some_iff.1 hk).1
          rw [hkl] at this
          simpa using this
        obtain ⟨k', v', _, e1, e2, _, h2, _⟩ := each i hi
        rw [hk] at e1; cases e1
        rw [hv] at e2; cases e2
        exact h2
    · cases hk
  · rename_i n e ht
    split at hk
    · rename_i k hke
      split at hk
      · rename_i hc
        obtain ⟨hC, hC1⟩ := hc
        cases hk
        obtain ⟨xs, m, _, rfl, hl, hxl, hf⟩ := DataW.trod_array ht h
        have each : ∀ (i : Nat), i < n → ∃ v y, cs[i]? = some v ∧ xs[i]? = some y ∧ k.is N v ∧ y.2 = [] := by
          intro i hi
          have h1 := hf i hi
          have hxi : xs[i]? = some xs[i] := by simp [hxl, hi]
          rw [hxi] at h1
          obtain ⟨v, hv, his, h2⟩ := ck_trod hB (hN.part hB (List.mem_map.2 ⟨_, List.mem_of_getElem? hxi, rfl⟩)) hke h1
          refine ⟨v, xs[i], ?_, hxi, his, h2⟩
          rw [hC1, Nat.mul_one] at hv
          have h9 := congrArg (·[0]?) hv
          simp [List.getElem?_take, List.getElem?_drop] at h9
          exact h9
        refine ⟨by rw [hl, hC]; simp, flat_nil fun i y hy => ?_, fun i k' v hk hv => ?_⟩
        · have hi : i < n := by rw [← hxl]; exact (List.getElem?_eq_some_iff.1 hy).1
          obtain ⟨_, y', _, e, _, h2⟩ := each i hi
          rw [hy] at e; cases e; exact h2
        · rw [List.getElem?_replicate] at hk
          split at hk
          · rename_i hi
            cases hk
            obtain ⟨v', _, e2, _, h2, _⟩ := each i hi
            rw [hv] at e2; cases e2
            exact h2
          · cases hk
      · cases hk
    · cases hk
  · split at hk
    · rename_i k hke
      split at hk
      · cases hk
        obtain ⟨v, rfl, his, h2⟩ := ck_trod hB hN hke h
        refine ⟨rfl, h2, fun i k' v' hk hv => ?_⟩
        cases i with
        | zero => simp at hk hv; subst hk hv; exact his
        | succ i => simp at hk
      · cases hk
    · cases hk

/-- Rows of cells of given kinds. -/
def AllIs (N : Nat) (ks : List CK) (cs : List Value) : Prop := cs.length = ks.length ∧ ∀ (i : Nat) (k : CK) (v : Value), ks[i]? = some k → cs[i]? = some v → k.is N v

theorem AllIs.nil {N : Nat} {cs : List Value} (h : AllIs N [] cs) : cs = [] := List.eq_nil_of_length_eq_zero h.1
theorem AllIs.cons {N : Nat} {k : CK} {ks : List CK} {cs : List Value} (h : AllIs N (k :: ks) cs) : ∃ v l, cs = v :: l ∧ k.is N v ∧ AllIs N ks l := by
  obtain ⟨hl, hi⟩ := h
  match cs, hl with
  | v :: l, hl => exact ⟨v, l, rfl, hi 0 k v rfl rfl, by simpa using hl, fun i k' v' h1 h2 => hi (i + 1) k' v' (by simpa using h1) (by simpa using h2)⟩
theorem AllIs.lit {N : Nat} {ks : List CK} {cs : List Value} (h : AllIs N ks cs) : cs.all lit0 = true := by
  rw [List.all_eq_true]
  intro v hv
  obtain ⟨i, hi⟩ := List.getElem?_of_mem hv
  have hlt : i < ks.length := by rw [← h.1]; exact (List.getElem?_eq_some_iff.1 hi).1
  exact CK.is_lit (h.2 i ks[i] v (by simp [hlt]) hi)

/-- A struct or an array of plain cells, by value. -/
theorem open_agg {r : Reach} {b0 : Nat} {t : TypeId} {ks : List CK} {v : Value} {d : DataW H} {ps : List MemPlace} (hB : BulkOK bulk) (hN : Small bulk N d) (hk : cksOf P t = some ks) (ha : ckOf P t = none) (hval : Value.okWide P W r b0 t v) (hd : DataW.Trod enc P W base spare held t v d ps) :
    ∃ cs : List Value, v = .agg ⟨cs⟩ ∧ AllIs N ks cs ∧ ps = [] := by
  obtain ⟨fuel, hf⟩ := hd
  obtain ⟨h1, h2, h3⟩ := cks_trod hB hN hk hf
  have : ∃ cs : Array Value, v = .agg cs := by
    unfold cksOf at hk
    unfold Value.okWide at hval
    split at hk
    · rename_i fs ht
      simp only [ht] at hval
      obtain ⟨cs, h, _⟩ := hval
      exact ⟨cs, h⟩
    · rename_i n e ht
      simp only [ht] at hval
      obtain ⟨cs, h, _⟩ := hval
      exact ⟨cs, h⟩
    · rw [ha] at hk; cases hk
  obtain ⟨⟨cs⟩, rfl⟩ := this
  exact ⟨cs, rfl, ⟨h1, h3⟩, h2⟩

/-- A plain cell, by value. -/
theorem open_cell {r : Reach} {b0 : Nat} {t : TypeId} {k : CK} {v : Value} {d : DataW H} {ps : List MemPlace} (hB : BulkOK bulk) (hN : Small bulk N d) (hk : ckOf P t = some k) (hval : Value.okWide P W r b0 t v) (hd : DataW.Trod enc P W base spare held t v d ps) : k.is N v ∧ ps = [] := by
  obtain ⟨fuel, hf⟩ := hd
  obtain ⟨v', h1, h2, h3⟩ := ck_trod hB hN hk hf
  refine ⟨?_, h3⟩
  have : v.cells = #[v] := by
    unfold ckOf at hk
    unfold Value.okWide Cell.okWide Cell.ok at hval
    split at hk
    · rename_i ht
      simp only [ht] at hval
      cases v <;> first | rfl | cases hval
    · rename_i k ht
      simp only [ht] at hval
      cases v <;> first | rfl | cases hval
    · rename_i ht
      simp only [ht] at hval
      cases v <;> first | rfl | cases hval
    · cases hk
  rw [this] at h1
  simp at h1
  rw [h1]
  exact h2

theorem liesAt_info {p : Program} : ∀ {d : Nat} {e : TypeId} {count off n : Nat} {u : TypeId}, liesAt p d e count off u n = true → ∃ i, p.info? e = some i
  | 0, _, _, _, _, _, h => by simp [liesAt] at h
  | d + 1, e, count, off, n, u, h => by
    unfold liesAt at h
    simp only [Bool.or_eq_true] at h
    rcases h with h | h
    · cases hi : p.info? e with
      | some i => exact ⟨i, rfl⟩
      | none =>
        have h0 : p.cellsOf e = 0 := by unfold Program.cellsOf; rw [hi]; rfl
        cases hd : p.depth with
        | zero => rw [hd] at h; simp [rowAt] at h
        | succ k => rw [hd] at h; simp [rowAt, h0] at h
    · split at h
      · exact liesAt_info h
      · cases h

theorem liesAt_off {p : Program} : ∀ {d : Nat} {e : TypeId} {count off n : Nat} {u : TypeId}, liesAt p d e count off u n = true → off ≤ count * p.cellsOf e
  | 0, _, _, _, _, _, h => by simp [liesAt] at h
  | d + 1, e, count, off, n, u, h => by
    unfold liesAt at h
    simp only [Bool.or_eq_true] at h
    rcases h with h | h
    · cases hd : p.depth with
      | zero => rw [hd] at h; simp [rowAt] at h
      | succ k =>
        rw [hd] at h
        unfold rowAt at h
        simp only at h
        split at h
        · cases h
        · rename_i hs
          simp only [Bool.or_eq_true, Bool.and_eq_true, decide_eq_true_eq, beq_iff_eq] at h
          have hdm := Nat.div_add_mod off (p.cellsOf e)
          rcases h with ⟨⟨h1, h2⟩, _⟩ | ⟨h1, _⟩
          · have : off / p.cellsOf e * p.cellsOf e ≤ count * p.cellsOf e := Nat.mul_le_mul_right _ (by omega)
            rw [Nat.mul_comm] at hdm
            omega
          · have h3 : (off / p.cellsOf e + 1) * p.cellsOf e ≤ count * p.cellsOf e := Nat.mul_le_mul_right _ (by omega)
            have h4 := Nat.mod_lt off (Nat.pos_of_ne_zero hs)
            rw [Nat.succ_mul] at h3
            rw [Nat.mul_comm] at hdm
            omega
    · split at h
      · exact liesAt_off h
      · cases h

/-- A slice of elements of plain cells: nil, or where it lies and what its elements are. -/
theorem open_row {r : Reach} {b0 : Nat} {t e : TypeId} {ks : List CK} {v : Value} {d : DataW H} {ps : List MemPlace} (hB : BulkOK bulk) (hN : Small bulk N d) (ht : P.underlying t = some (.slice e)) (hk : cksOf P e = some ks) (hc : P.cellsOf e = ks.length)
    (hval : Value.okWide P W r b0 t v) (hd : DataW.Trod enc P W base spare held t v d ps) :
    v = .slice none 0 0 ∨ ∃ (q off len cap : Nat) (row : TypeId) (c : Array Value) (fr : Nat × Nat) (i : TypeInfo) (vs : List Value), v = .slice (some ⟨q, off, none⟩) len cap ∧ len ≤ cap ∧ W.heap[q]? = some (.cells c row fr) ∧ P.info? row = some i ∧
      vs.length = len * ks.length ∧ off + vs.length ≤ c.size ∧ (∀ (j : Nat) (u : Value), vs[j]? = some u → c[off + j]? = some u) ∧ (∀ (j : Nat), j < len → AllIs N ks ((vs.drop (j * ks.length)).take ks.length)) := by
  have hform : ∃ a l c, v = .slice a l c := by
    unfold Value.okWide Cell.okWide Cell.ok at hval
    simp only [ht] at hval
    cases v <;> first | exact ⟨_, _, _, rfl⟩ | cases hval
  obtain ⟨a0, len0, cap0, rfl⟩ := hform
  obtain ⟨fuel, hf⟩ := hd
  simp only [Value.cells] at hf
  rcases open_slice ht hf with ⟨h1, _⟩ | ⟨a, len, cap, m, n, D, Pl, h1, _, hlc, _, hm, hxx, hx⟩
  · left
    simpa using h1
  · right
    simp only [List.cons.injEq, Value.slice.injEq, and_true] at h1
    obtain ⟨rfl, rfl, rfl⟩ := h1
    simp only [Prod.mk.injEq] at hxx
    rw [hxx.1] at hN
    unfold Value.okWide Cell.okWide Cell.ok at hval
    simp only [ht] at hval
    obtain ⟨_, _, _, hspot, row, cells, hshape, hlies⟩ := hval
    obtain ⟨i, hi⟩ := liesAt_info hlies
    obtain ⟨q, off, spot⟩ := a
    simp only at hspot
    subst hspot
    unfold World.shape? at hshape
    split at hshape
    · rename_i c elem fr hheap
      cases hshape
      have hlm : len0 ≤ m := by rw [hm]; split <;> omega
      -- the elements' cells
      have each : ∀ j, j < len0 → ∃ cs', AllIs N ks cs' ∧ ∀ (l : Nat) (u : Value), cs'[l]? = some u → c[off + (j * ks.length + l)]? = some u := by
        intro j hj
        obtain ⟨cs', h2, h3⟩ := hx j (by omega)
        obtain ⟨k1, _, k3⟩ := cks_trod hB (hN.elem hB (List.mem_map.2 ⟨j, List.mem_range.2 hj, rfl⟩)) hk h3
        refine ⟨cs', ⟨k1, k3⟩, fun l u hu => ?_⟩
        obtain ⟨_, hlen, hcell⟩ := World.cells?_some h2
        have hl : l < P.cellsOf e := by rw [← hlen]; exact (List.getElem?_eq_some_iff.1 hu).1
        have h4 := hcell l hl
        rw [hu, hc] at h4
        have e4 : ((⟨q, off, none⟩ : Addr).add (j * ks.length)).add l = ⟨q, off + (j * ks.length + l), none⟩ := by
          unfold Addr.add
          split <;> split <;> simp <;> omega
        rw [e4] at h4
        simp only [World.cell?, hheap] at h4
        simpa using h4
      obtain ⟨G, hG⟩ := Classical.axiomOfChoice (r := fun (j : Nat) (cs' : List Value) => j < len0 → AllIs N ks cs' ∧ ∀ (l : Nat) (u : Value), cs'[l]? = some u → c[off + (j * ks.length + l)]? = some u)
        (fun j => by
          by_cases hj : j < len0
          · obtain ⟨cs', h⟩ := each j hj
            exact ⟨cs', fun _ => h⟩
          · exact ⟨[], fun h => absurd h hj⟩)
      -- all of them, one behind the other
      have build : ∀ n, n ≤ len0 → ∃ vs : List Value, vs.length = n * ks.length ∧ (∀ (j : Nat) (u : Value), vs[j]? = some u → c[off + j]? = some u) ∧ (∀ j, j < n → AllIs N ks ((vs.drop (j * ks.length)).take ks.length)) := by
        intro n
        induction n with
        | zero => intro _; exact ⟨[], by simp, fun j u hu => by simp at hu, fun j hj => by omega⟩
        | succ n ih =>
          intro hn
          obtain ⟨vs, v1, v2, v3⟩ := ih (by omega)
          obtain ⟨g1, g2⟩ := hG n (by omega)
          refine ⟨vs ++ G n, by rw [List.length_append, v1, g1.1, Nat.succ_mul], fun j u hu => ?_, fun j hj => ?_⟩
          · by_cases hj : j < vs.length
            · rw [List.getElem?_append_left hj] at hu; exact v2 j u hu
            · rw [List.getElem?_append_right (by omega)] at hu
              have := g2 _ u hu
              rw [v1] at this
              rw [show off + (n * ks.length + (j - n * ks.length)) = off + j by omega] at this
              exact this
          · by_cases hjn : j < n
            · rw [List.drop_append_of_le_length (by rw [v1]; exact Nat.mul_le_mul_right _ (by omega))]
              have hle : ks.length ≤ (vs.drop (j * ks.length)).length := by
                rw [List.length_drop, v1]
                have : (j + 1) * ks.length ≤ n * ks.length := Nat.mul_le_mul_right _ (by omega)
                rw [Nat.succ_mul] at this
                omega
              rw [List.take_append_of_le_length hle]
              exact v3 j hjn
            · have : j = n := by omega
              subst this
              rw [← v1, List.drop_left, List.take_of_length_le (by rw [g1.1]; exact Nat.le_refl _)]
              exact g1
      obtain ⟨vs, v1, v2, v3⟩ := build len0 (Nat.le_refl _)
      refine ⟨q, off, len0, cap0, row, c, fr, i, vs, rfl, hlc, hheap, hi, v1, ?_, v2, v3⟩
      have hoff : off ≤ c.size := by
        have h8 : off ≤ c.size / P.cellsOf row * P.cellsOf row := liesAt_off hlies
        have h9 := Nat.div_mul_le_self c.size (P.cellsOf row)
        omega
      by_cases hne : vs.length = 0
      · omega
      · have hl : vs.length - 1 < vs.length := by omega
        have := v2 (vs.length - 1) vs[vs.length - 1] (by simp [hl])
        have := (Array.getElem?_eq_some_iff.1 this).1
        omega
    · cases hshape

/-- The memory with what an argument leads to, which may only be read. -/
theorem mr_more {ρ : Ren} {m : Mem} (h : MR P ρ m W) (hro : ∀ (k : Nat) (e : TypeId) (cs : List Value), m[k]? ≠ some (Blk.row false e cs)) {q : Nat} {c : Array Value} {row : TypeId} {fr : Nat × Nat} {i : TypeInfo} (hq : W.heap[q]? = some (.cells c row fr)) (hi : P.info? row = some i)
    {cs : List Value} (hl : cs.length ≤ c.size) (hcs : ∀ (j : Nat) (u : Value), cs[j]? = some u → ∃ v, c[j]? = some v ∧ VR ρ u v) :
    MR P (ρ.put m.length ⟨q, c.size, i.size⟩) (m ++ [.row true row cs]) W ∧ ρ.le (ρ.put m.length ⟨q, c.size, i.size⟩) ∧ (ρ.put m.length ⟨q, c.size, i.size⟩) m.length = some ⟨q, c.size, i.size⟩ ∧
      ∀ (k : Nat) (e : TypeId) (l : List Value), (m ++ [Blk.row true row cs])[k]? ≠ some (Blk.row false e l) := by
  have hle : ρ.le (ρ.put m.length ⟨q, c.size, i.size⟩) := Ren.le_put (h.dom _ (Nat.le_refl _))
  have hcase : ∀ k b, (m ++ [Blk.row true row cs])[k]? = some b → (k < m.length ∧ m[k]? = some b) ∨ (k = m.length ∧ b = .row true row cs) := by
    intro k b hb
    rcases Nat.lt_trichotomy k m.length with hk | hk | hk
    · left; rw [List.getElem?_append_left hk] at hb; exact ⟨hk, hb⟩
    · right; subst hk; simp at hb; exact ⟨rfl, hb.symm⟩
    · rw [List.getElem?_append_right (by omega), List.getElem?_eq_none (by simp; omega)] at hb; cases hb
  have hput : ∀ k, k < m.length → (ρ.put m.length ⟨q, c.size, i.size⟩) k = ρ k := by
    intro k hk; unfold Ren.put; rw [if_neg (by omega)]
  have hputn : (ρ.put m.length ⟨q, c.size, i.size⟩) m.length = some ⟨q, c.size, i.size⟩ := by simp [Ren.put]
  have hro' : ∀ (k : Nat) (e : TypeId) (l : List Value), (m ++ [Blk.row true row cs])[k]? ≠ some (Blk.row false e l) := by
    intro k e l hk
    rcases hcase k _ hk with ⟨_, hk⟩ | ⟨_, hk⟩
    · exact hro k e l hk
    · cases hk
  refine ⟨⟨?_, ?_, fun g hg => (h.glob g hg).imp fun x hx => ⟨hle _ _ hx.1, hx.2⟩, ?_, fun k e1 cs1 k' ro' e' cs' x x' hb => absurd hb (hro' k e1 cs1), ?_⟩, hle, hputn, hro'⟩
  · intro k hk
    simp at hk
    unfold Ren.put
    rw [if_neg (by omega)]
    exact h.dom k (by omega)
  · intro k x hx
    unfold Ren.put at hx
    split at hx
    · cases hx; exact (Array.getElem?_eq_some_iff.1 hq).1
    · exact h.bnd _ _ hx
  · intro k ro' e' cs' hb
    unfold look at hb
    split at hb
    · rename_i b hb'
      rcases hcase k b hb' with ⟨hk, hb'⟩ | ⟨rfl, rfl⟩
      · obtain ⟨x, c', fr', hx, hw, hn, hl', hi', hf, hz⟩ := h.row k ro' e' cs' (by simp [look, hb', hb])
        exact ⟨x, c', fr', hle _ _ hx, hw, hn, hl', fun j u hu => (by obtain ⟨v, hv, hr⟩ := hi' j u hu; exact ⟨v, hv, hr.mono hle⟩), hf, hz⟩
      · simp [Blk.cells?] at hb
        obtain ⟨rfl, rfl, rfl⟩ := hb
        exact ⟨_, c, fr, hputn, hq, rfl, hl, fun j u hu => (by obtain ⟨v, hv, hr⟩ := hcs j u hu; exact ⟨v, hv, hr.mono hle⟩), fun hh => (by cases hh), by rw [hi]; rfl⟩
    · cases hb
  · intro k e1 cs1 hb
    rcases hcase k _ hb with ⟨hk, hb⟩ | ⟨_, hb⟩
    · exact h.tab k e1 cs1 hb
    · cases hb

/-- A slice's block in the abstract memory: of what lies ahead nothing is known. -/
def ahead (off : Nat) (vs : List Value) : List Value := List.replicate off junk ++ vs

theorem ahead_get (off : Nat) (vs : List Value) (j : Nat) : (ahead off vs)[off + j]? = vs[j]? := by
  unfold ahead
  rw [List.getElem?_append_right (by simp)]
  simp

/-- A slice as an argument: the memory grows by one block that may only be read, or the slice is nil. -/
theorem mr_slice {r : Reach} {b0 : Nat} {t e : TypeId} {ks : List CK} {v : Value} {d : DataW H} {ps : List MemPlace} (hB : BulkOK bulk) (hN : Small bulk N d) (ht : P.underlying t = some (.slice e)) (hk : cksOf P e = some ks) (hc : P.cellsOf e = ks.length) (hks : 0 < ks.length)
    (hval : Value.okWide P W r b0 t v) (hd : DataW.Trod enc P W base spare held t v d ps)
    {ρ : Ren} {m : Mem} (h : MR P ρ m W) (hro : ∀ (k : Nat) (e : TypeId) (cs : List Value), m[k]? ≠ some (Blk.row false e cs)) :
    v = .slice none 0 0 ∨ ∃ (off len cap : Nat) (row : TypeId) (vs : List Value) (ρ' : Ren), len ≤ cap ∧ vs.length = len * ks.length ∧ (∀ (j : Nat), j < len → AllIs N ks ((vs.drop (j * ks.length)).take ks.length)) ∧ ρ.le ρ' ∧
      VR ρ' (.slice (some ⟨m.length, off, none⟩) len cap) v ∧ MR P ρ' (m ++ [.row true row (ahead off vs)]) W ∧ ∀ (k : Nat) (e : TypeId) (l : List Value), (m ++ [Blk.row true row (ahead off vs)])[k]? ≠ some (Blk.row false e l) := by
  rcases open_row hB hN ht hk hc hval hd with h0 | ⟨q, off, len, cap, row, c, fr, i, vs, rfl, hlc, hq, hi, v1, vfit, v2, v3⟩
  · exact .inl h0
  · right
    · obtain ⟨g1, g2, g3, g4⟩ := mr_more h hro hq hi (cs := ahead off vs) (by unfold ahead; simp; omega) (fun j u hu => by
        unfold ahead at hu
        by_cases hj : j < off
        · rw [List.getElem?_append_left (by simpa using hj), List.getElem?_replicate, if_pos hj] at hu
          cases hu
          exact ⟨c[j], by simp [show j < c.size by omega], .junk⟩
        · rw [List.getElem?_append_right (by simp; omega)] at hu
          simp only [List.length_replicate] at hu
          have h5 := v2 _ u hu
          rw [show off + (j - off) = j by omega] at h5
          have hlt : j - off < vs.length := (List.getElem?_eq_some_iff.1 hu).1
          refine ⟨u, h5, .lit (lit2_of_lit1 (lit1_of_lit0 ?_))⟩
          -- it is a cell of an element
          have hidx : (j - off) / ks.length < len := by
            rw [Nat.div_lt_iff_lt_mul hks, ← v1]; exact hlt
          have h6 := (v3 _ hidx).lit
          rw [List.all_eq_true] at h6
          refine h6 u (List.mem_of_getElem? (i := (j - off) % ks.length) ?_)
          rw [List.getElem?_take, if_pos (Nat.mod_lt _ hks), List.getElem?_drop, Nat.mul_comm, Nat.div_add_mod]
          exact hu)
      exact ⟨off, len, cap, row, vs, _, hlc, v1, v3, g2, .slice (x := ⟨q, c.size, i.size⟩) g3 (.inl rfl), g1, g4⟩

end Go.Am

/-
  From a run of the machine to what a row asks: whatever the arguments lead to, they read behind the call as they did (own work; nothing of a dump).
-/
set_option linter.unusedSimpArgs false
set_option linter.unusedVariables false
namespace Go.Am
open Go.ChangeShapes Go.WideShapes Go.ChangeAt Go.RowKit
variable {H : Type} {enc : TypeId × Value → H} {P : Program}

/-- A slice as an argument: the memory ahead, the machine's value, the memory with it. -/
inductive SliceArg (N : Nat) (ks : List CK) (m : Mem) : Value → Mem → Prop
  | nil : SliceArg N ks m (.slice none 0 0) m
  | row {off len cap : Nat} {row : TypeId} {vs : List Value} : len ≤ cap → vs.length = len * ks.length → (∀ (j : Nat), j < len → AllIs N ks ((vs.drop (j * ks.length)).take ks.length)) →
      SliceArg N ks m (.slice (some ⟨m.length, off, none⟩) len cap) (m ++ [.row true row (ahead off vs)])

/-- Memory of which nothing may be written. -/
def NoRow (m : Mem) : Prop := ∀ (k : Nat) (e : TypeId) (cs : List Value), m[k]? ≠ some (Blk.row false e cs)

theorem mr_arg {bulk : DataW H → Nat} {N : Nat} {W : World} {base : Nat} {spare : Nat → Bool} {held : Bool} {r : Reach} {b0 : Nat} {t e : TypeId} {ks : List CK} {v : Value} {d : DataW H} {ps : List MemPlace} (hB : BulkOK bulk) (hN : Small bulk N d) (ht : P.underlying t = some (.slice e)) (hk : cksOf P e = some ks) (hc : P.cellsOf e = ks.length) (hks : 0 < ks.length)
    (hval : Value.okWide P W r b0 t v) (hd : DataW.Trod enc P W base spare held t v d ps) {ρ : Ren} {m : Mem} (h : MR P ρ m W) (hro : NoRow m) :
    ∃ a m' ρ', SliceArg N ks m a m' ∧ ρ.le ρ' ∧ VR ρ' a v ∧ MR P ρ' m' W ∧ NoRow m' := by
  rcases mr_slice hB hN ht hk hc hks hval hd h hro with rfl | ⟨off, len, cap, row, vs, ρ', h1, h2, h3, h4, h5, h6, h7⟩
  · exact ⟨_, m, ρ, .nil, Ren.le_refl _, .lit rfl, h, hro⟩
  · exact ⟨_, _, ρ', .row h1 h2 h3, h4, h5, h6, h7⟩

theorem trodAll_stays (hl : laidOutB P = true) {W W' : World} {sp' : Nat → Bool} (hb : Below W.heap.size W W') : ∀ {ts : List TypeId} {vs : List Value} {ds : List (DataW H)} {ps : List MemPlace}, (∀ t ∈ ts, P.readableRec t = true ∧ t < P.types.size) →
    DataW.TrodAll enc P W 0 (fun _ => true) true ts vs ds ps → (∀ p ∈ ps, p.block < W.heap.size) → (∀ p ∈ ps, sp' p.block = true) → DataW.TrodAll enc P W' 0 sp' true ts vs ds ps
  | [], [], [], ps, _, h, _, _ => h
  | t :: ts, v :: vs, d :: ds, ps, ht, h, hlt, hs => by
    obtain ⟨p, q, h1, h2, rfl⟩ := h
    obtain ⟨hr, hrow⟩ := ht t (by simp)
    exact ⟨p, q, WideElems.Trod_stays hl hr hrow h1 (fun x hx => hb.same (hlt x (by simp [hx]))) (fun x hx => hs x (by simp [hx])),
      trodAll_stays hl hb (fun t' h' => ht t' (by simp [h'])) h2 (fun x hx => hlt x (by simp [hx])) (fun x hx => hs x (by simp [hx])), rfl⟩
  | [], [], _ :: _, _, _, h, _, _ => h.elim
  | [], _ :: _, _, _, _, h, _, _ => h.elim
  | _ :: _, [], _, _, _, h, _, _ => h.elim
  | _ :: _, _ :: _, [], _, _, h, _, _ => h.elim

/-- What a law's row asks of a call that answers true and leaves what was there alone. -/
theorem post_true (hl : laidOutB P = true) {f : Func} {s : ChangeSpec} {fresh handsOn again : Bool} {W W' : World} {args : Array Value} {ds gs : List (DataW H)} {before : List MemPlace} {tb : TypeId}
    (hW : DataW.Whole enc P f.params.toList s.vars false W args.toList ds gs before) (hvs : s.vars = []) (hts : ∀ t ∈ f.params.toList, P.readableRec t = true ∧ t < P.types.size) (hrt : f.resultTypes = #[tb]) (htb : P.underlying tb = some .bool)
    (hfn : (s.fn H ds).results = [.lit (.bool true)] ∧ (s.fn H ds).args = ds ∧ (s.fn H ds).vars = []) (hb : Below W.heap.size W W') : s.post enc P f false fresh handsOn again W args (.bool true) W' := by
  have hlt := fun p hp => hW.lt p hp
  have hW' := hW
  obtain ⟨pa, pv, hA, hV, rfl, hz, hn⟩ := hW'
  rw [hvs] at hV
  obtain ⟨rfl, rfl⟩ := trodVars_none hV
  simp only [List.append_nil] at hW hlt hz
  have hargs : ∀ sp : Nat → Bool, (∀ p ∈ pa, sp p.block = true) → DataW.TrodAll enc P W' 0 sp true f.params.toList args.toList (s.fn H (ds ++ [])).args pa := fun sp hsp => by
    rw [List.append_nil, hfn.2.1]
    exact trodAll_stays hl hb hts hA hlt hsp
  have hres : ∀ (b : Nat) (sp : Nat → Bool) (hd : Bool), DataW.TrodAll enc P W' b sp hd f.resultTypes.toList ((Value.bool true).resultList f.resultTypes.size) (s.fn H (ds ++ [])).results [] := fun b sp hd => by
    rw [List.append_nil, hfn.1, hrt]
    exact trodAll_cons_mk (shut_bool htb true) trodAll_mk0
  have hvars : ∀ sp : Nat → Bool, DataW.TrodVars enc P W' sp s.vars (s.fn H (ds ++ [])).vars [] := fun sp => by
    rw [List.append_nil, hfn.2.2, hvs]
    rfl
  have hold : ∀ p ∈ pa, (fun b => decide (b < W.heap.size)) p.block = true := fun p hp => by simpa using hlt p hp
  refine ⟨ds, [], pa, [], pa, [], by simpa using hW, hres _ _ _, hargs _ hold, hvars _, World.keptBut_mono (fun p hp => ⟨hp, .inr (.inl hp)⟩) (hb.frame _), fun _ => ?_⟩
  refine ⟨fun j t r h1 h2 => ?_, _, _, ([] ++ pa) ++ [], ⟨[] ++ pa, [], trodAll_append (hargs _ (fun _ _ => rfl)) (hres _ _ _), hvars _, rfl, ?_, ?_⟩, ?_⟩
  · rw [hrt] at h1 h2
    cases j with
    | zero =>
      simp [Value.resultList] at h1 h2
      subst h1 h2
      exact okWide_bool_mk htb true
    | succ j => simp at h1
  · intro b off hp
    have hp' : MemPlace.cell b off ∈ pa := by simpa using hp
    rw [hb.frozen (p := ⟨b, off, none⟩) (hlt _ hp')]
    exact hz b off hp'
  · intro ha; cases ha
  · intro p hp _
    simpa using hp
end Go.Am

/-
  The abstract machine: panics (own work; nothing of a dump).
-/
set_option linter.unusedSimpArgs false
set_option linter.unusedVariables false
namespace Go.Am
noncomputable section

/-- How a call ends that panics. -/
def EndsP (P : Program) (ρ : Ren) (m : Mem) (w : World) (pv : Value) (m1 : Mem) (e : Ending) (w1 : World) : Prop :=
  ∃ pv' ρ1, e = .panicked [{ v := pv', recovered := false }] ∧ VR ρ1 pv pv' ∧ MR P ρ1 m1 w1 ∧ Ext ρ m w ρ1 m1 w1

/-- What tells of calls that panic is sound. -/
def PanOK (P : Program) (sp : Self) : Prop :=
  ∀ f args m v m1, sp f args m = some (v, m1) → ∀ ρ w (args' : Array Value), MR P ρ m w → TR ρ args args' → Calls P f args' w (EndsP P ρ m w v m1)

/-- A call that panics. -/
def ainvP (E : Env) (sp : Self) (g : FuncId) (args : List Value) (m : Mem) : Option (Value × Mem) :=
  if args.all lit2 then match sp g args ((m.take E.G).map onlyTab) with
    | some (v, m1) => acoll m ((m.take E.G).map onlyTab).length v m1
    | none => none
  else if E.wr g then sp g args m
  else match sp g args (m.map sealed) with
    | some (v, m1) => acoll m (m.map sealed).length v m1
    | none => none

theorem ainvP_sound {E : Env} {sp : Self} (hG : E.P.globals.size ≤ E.G) (hs : PanOK E.P sp) : PanOK E.P (ainvP E sp) := by
  intro f args m v m1 h ρ w args' hm ht
  unfold ainvP at h
  split at h
  · rename_i hl
    split at h
    · rename_i v0 m0 h0
      refine (hs _ _ _ _ _ h0 _ w args' (mr_onlyTab hm hG) (tr_lit ht hl)).mono ?_
      rintro e w1 ⟨v', ρ1, rfl, hv, hm1, hx⟩
      obtain ⟨ρ2, h1, h2, h3⟩ := acoll_sound hm rfl (fun k x hk => by (split at hk; exact hk; cases hk)) (fun k e cs => onlyTab_ro k e cs) hm1 hx hv h
      exact ⟨v', ρ2, rfl, h1, h2, h3⟩
    · cases h
  · split at h
    · exact hs _ _ _ _ _ h ρ w args' hm ht
    · split at h
      · rename_i v0 m0 h0
        refine (hs _ _ _ _ _ h0 ρ w args' (mr_sealed hm) ht).mono ?_
        rintro e w1 ⟨v', ρ1, rfl, hv, hm1, hx⟩
        obtain ⟨ρ2, h1, h2, h3⟩ := acoll_sound hm rfl (fun k x hk => hk) (fun k e cs => sealed_ro k e cs) hm1 hx hv h
        exact ⟨v', ρ2, rfl, h1, h2, h3⟩
      · cases h

/-- An operation that panics. -/
def apan (E : Env) (sp : Self) (T : List Value) (m : Mem) (o : Oper) : Option (Value × Mem) :=
  match o.op with
  | .panic x => match ev T x with
    | .iface t v => some (.iface t v, m)
    | _ => none
  | .call c => match c.callee with
    | .value f => match ev T f with
      | .func (.func g) a b => match callableB E.P g with
        | true => ainvP E sp g (a.toList ++ c.args.toList.map (ev T) ++ b.toList) m
        | false => none
      | _ => none
    | _ => none
  | _ => none

theorem vr_iface_inv {ρ : Ren} {t : TypeId} {v v' : Value} (h : VR ρ (.iface t v) v') : v' = .iface t v := by
  cases h with
  | lit _ => rfl

theorem apan_wp {E : Env} {sp : Self} (hs : PanOK E.P (ainvP E sp)) (hnum : noNum E.P) {ρ : Ren} {m m1 : Mem} {w : World} {T : List Value} {a : Act} {o : Oper} {pv : Value}
    (hm : MR E.P ρ m w) (hev : ∀ x, x ∈ o.op.operands.toList → VR ρ (ev T x) (a.eval x)) (h : apan E sp T m o = some (pv, m1)) {K : Act → World → Prop} {Q : Exit → Act → World → Prop}
    (hQ : ∀ pv' w1 ρ1, VR ρ1 pv pv' → MR E.P ρ1 m1 w1 → Ext ρ m w ρ1 m1 w1 → Q (.panic [{ v := pv', recovered := false }]) a w1) : o.wp E.P a w K Q := by
  unfold apan at h
  split at h
  · rename_i x ho
    split at h
    · rename_i t v hx
      cases h
      have h0 := hev x (by simp [ho, Op.operands])
      rw [hx] at h0
      have e0 := vr_iface_inv h0
      unfold Oper.wp
      have hrun : (execOp a.eval o).run E.P w = .halt (.panic (.iface t v)) w := by
        simp only [execOp, ho, e0, Instr.panic]
        rfl
      rw [hrun, Oper.upon_panic]
      rw [e0] at h0
      exact hQ _ w ρ h0 hm (Ext.refl' _ hm.dom)
    · cases h
  · rename_i c ho
    split at h
    · rename_i f hc
      split at h
      · rename_i g fa fb hf
        split at h
        · rename_i hcall
          have hfv := hev f (by simp [ho, Op.operands, Call.operands, hc])
          rw [hf] at hfv
          obtain ⟨a', b', hfe, hn, hi, hk, hj⟩ := vr_func_inv (a := fa.toList) (b := fb.toList) hfv
          have htr : TR ρ (c.args.toList.map (ev T)) (c.args.map a.eval) := by
            obtain ⟨h1, h2⟩ := vr_map (T := T) (a := a) (ρ := ρ) (l := c.args) fun x hx => hev x (by simp [ho, Op.operands, Call.operands]; right; simpa using hx)
            exact ⟨by simp, fun i x y hx hy => h2 i x y hx (by simpa using hy)⟩
          have hcf : (execOp a.eval o).run E.P w = (callFunc g ((⟨a'⟩ : Array Value) ++ c.args.map a.eval ++ (⟨b'⟩ : Array Value))).run E.P w := by
            simp [execOp, ho, resolve, hc, hfe, Deferred.ofValue, invoke]
          unfold callableB at hcall
          split at hcall
          · rename_i fn hfn
            obtain ⟨code, hcode⟩ := Option.isSome_iff_exists.1 hcall
            have hrun : (execOp a.eval o).run E.P w = .ok (.enter g ((⟨a'⟩ : Array Value) ++ c.args.map a.eval ++ (⟨b'⟩ : Array Value))) w := by
              have hn := hnum g fn hfn
              simp only [beq_eq_false_iff_ne, ne_eq] at hn
              rw [hcf]
              simp [callFunc, hfn, hn, hcode]
            unfold Oper.wp
            rw [hrun, Oper.upon_enter]
            refine (hs _ _ _ _ _ h ρ w _ hm (tr_caps hn hi hk hj htr)).mono ?_
            rintro e w1 ⟨v', ρ1, rfl, hv, hm1, hx⟩
            exact hQ v' w1 ρ1 hv hm1 hx
          · cases hcall
        · cases h
      · cases h
    · cases h
  · cases h

/-- Operations one behind the other, of which one panics. -/
def aopsP (E : Env) (self sp : Self) (ops : Array Oper) : List Oper → List Value → Mem → Option (Value × List Value × Mem)
  | [], _, _ => none
  | o :: l, T, m => match agd ops T o with
    | some true => if okOp E.P o.op then match astep E self T m o with
        | some (v, m1) => aopsP E self sp ops l (aput T o.dst v) m1
        | none => match apan E sp T m o with
          | some (pv, m1) => some (pv, T, m1)
          | none => none
      else none
    | some false => aopsP E self sp ops l (aput T o.dst undef) m
    | none => none

/-- Behind a panic. -/
def PPost (D : List Deferred) (P : Program) (ρ : Ren) (m : Mem) (w : World) (pv : Value) (T1 : List Value) (m1 : Mem) (e : Exit) (a1 : Act) (w1 : World) : Prop :=
  ∃ pv' ρ1, e = .panic [{ v := pv', recovered := false }] ∧ a1.defers = D ∧ TR ρ1 T1 a1.tmps ∧ VR ρ1 pv pv' ∧ MR P ρ1 m1 w1 ∧ Ext ρ m w ρ1 m1 w1

theorem PPost.after {D : List Deferred} {P : Program} {ρ ρ1 : Ren} {m m1 m2 : Mem} {w w1 w2 : World} {pv : Value} {T2 : List Value} {e : Exit} {a2 : Act} (hx : Ext ρ m w ρ1 m1 w1) (h : PPost D P ρ1 m1 w1 pv T2 m2 e a2 w2) : PPost D P ρ m w pv T2 m2 e a2 w2 := by
  obtain ⟨pv', ρ2, h1, h2, h3, h4, h5, h6⟩ := h
  exact ⟨pv', ρ2, h1, h2, h3, h4, h5, hx.trans h6⟩

theorem aopsP_sound {E : Env} {self sp : Self} (hs : CallOK E.P (ainv E self)) (hp : PanOK E.P (ainvP E sp)) (hnum : noNum E.P) (hx9 : XOK E) {ops : Array Oper} :
    ∀ (l : List Oper) (T : List Value) (m : Mem) (pv : Value) (T1 : List Value) (m1 : Mem), aopsP E self sp ops l T m = some (pv, T1, m1) → ∀ (D : List Deferred) (ρ : Ren) (w : World) (a : Act), a.defers = D → MR E.P ρ m w → TR ρ T a.tmps →
      ∀ (Q : Exit → Act → World → Prop), (∀ e a1 w1, PPost D E.P ρ m w pv T1 m1 e a1 w1 → Q e a1 w1) → wpList E.P ops Q l a w
  | [], T, m, pv, T1, m1, h, D, ρ, w, a, hd, hm, ht, Q, hQ => by simp [aopsP] at h
  | o :: l, T, m, pv, T1, m1, h, D, ρ, w, a, hd, hm, ht, Q, hQ => by
    unfold aopsP at h
    split at h
    · rename_i hg
      split at h
      · rename_i hok
        simp only [wpList, agd_sound ht.size (fun _ _ _ d _ _ _ x y => ht.at_ d x y) hg, if_true]
        left
        split at h
        · rename_i v m2 hst
          refine astep_wp hs hnum hx9 hm (ev_all hm ht hok) hok hst fun v' w1 ρ1 hv hm1 hx => ?_
          exact aopsP_sound hs hp hnum hx9 l _ _ _ _ _ h D ρ1 w1 _ (by rw [put_defers]; exact hd) hm1 (tr_put (ht.mono hx.le) o.dst hv) Q fun e a2 w2 h2 => hQ e a2 w2 (h2.after hx)
        · split at h
          · rename_i pv0 m2 hpa
            cases h
            refine apan_wp hp hnum hm (ev_all hm ht hok) hpa fun pv' w1 ρ1 hv hm1 hx => hQ _ _ _ ⟨pv', ρ1, rfl, hd, ht.mono hx.le, hv, hm1, hx⟩
          · cases h
      · cases h
    · rename_i hg
      simp only [wpList, agd_sound ht.size (fun _ _ _ d _ _ _ x y => ht.at_ d x y) hg, Bool.false_eq_true, if_false]
      exact aopsP_sound hs hp hnum hx9 l _ _ _ _ _ h D ρ w _ (by rw [put_defers]; exact hd) hm (tr_put ht o.dst (vr_undef ρ)) Q hQ
    · cases h

abbrev PRes := Option (Value × List Value × Mem)

def aloopP (body : List Value → Mem → CRes) (bodyP : List Value → Mem → PRes) : Nat → List Value → Mem → PRes
  | 0, _, _ => none
  | n + 1, T, m => match body T m with
    | some (.normal, T1, m1) => aloopP body bodyP n T1 m1
    | some _ => none
    | none => bodyP T m

/-- Code that panics. -/
def acodeP (E : Env) (self sp : Self) (n : Nat) : Code → List Value → Mem → PRes
  | .region _ ops false, T, m => aopsP E self sp ops ops.toList T m
  | .seq a b, T, m => match acode E self n a T m with
    | some (.normal, T1, m1) => acodeP E self sp n b T1 m1
    | some _ => none
    | none => acodeP E self sp n a T m
  | .cond c a b, T, m => if okOperand E.P c then match ev T c with
      | .bool true => acodeP E self sp n a T m
      | .bool false => acodeP E self sp n b T m
      | _ => none
    else none
  | .block _ c, T, m => acodeP E self sp n c T m
  | .loop c, T, m => aloopP (acode E self n c) (acodeP E self sp n c) n T m
  | .scope c, T, m => acodeP E self sp n c T m
  | _, _, _ => none

def BodyPOK (P : Program) (c : Code) (body : List Value → Mem → PRes) : Prop :=
  ∀ T m pv T1 m1, body T m = some (pv, T1, m1) → ∀ (D : List Deferred) (ρ : Ren) (w : World) (a : Act), a.defers = D → MR P ρ m w → TR ρ T a.tmps → c.wp P (PPost D P ρ m w pv T1 m1) a w

theorem aloopP_sound {P : Program} {c : Code} {body : List Value → Mem → CRes} {bodyP : List Value → Mem → PRes} (hb : BodyOK P c body) (hp : BodyPOK P c bodyP) :
    ∀ (n : Nat) T m pv T1 m1, aloopP body bodyP n T m = some (pv, T1, m1) → ∀ (D : List Deferred) (ρ : Ren) (w : World) (a : Act), a.defers = D → MR P ρ m w → TR ρ T a.tmps → Code.rounds P c (PPost D P ρ m w pv T1 m1) n a w
  | 0, T, m, pv, T1, m1, h => by simp [aloopP] at h
  | n + 1, T, m, pv, T1, m1, h => by
    intro D ρ w a hd hm ht
    unfold aloopP at h
    rw [rounds_succ]
    split at h
    · rename_i T2 m2 h2
      refine wp_mono (hb _ _ _ _ _ h2 D ρ w a hd hm ht) ?_
      rintro e' a1 w1 ⟨rfl, hd1, ρ1, ht1, hm1, hx1⟩
      show Code.rounds P c _ n a1 w1
      exact rounds_mono (aloopP_sound hb hp n _ _ _ _ _ h D ρ1 w1 a1 hd1 hm1 ht1) fun e a2 w2 h3 => h3.after hx1
    · cases h
    · refine wp_mono (hp _ _ _ _ _ h D ρ w a hd hm ht) ?_
      rintro e' a1 w1 h3
      obtain ⟨pv', ρ1, rfl, h4⟩ := h3
      exact ⟨pv', ρ1, rfl, h4⟩

theorem acodeP_sound {E : Env} {self sp : Self} (hs : CallOK E.P (ainv E self)) (hp : PanOK E.P (ainvP E sp)) (hE : EnvOK E) (n : Nat) : ∀ c : Code, codeOk E.P E.wr E.sr E.mkr c = true → BodyPOK E.P c (acodeP E self sp n c) := by
  intro c
  induction c with
  | region id ops draw =>
    intro _ T m pv T1 m1 h D ρ w a hd hm ht
    cases draw with
    | true => simp [acodeP] at h
    | false =>
      simp only [acodeP] at h
      exact wp_region_list (aopsP_sound hs hp hE.num hE.ext _ _ _ _ _ _ h D ρ w a hd hm ht _ fun e a1 w1 h1 => h1)
  | seq x y ihx ihy =>
    intro hco T m pv T1 m1 h D ρ w a hd hm ht
    simp only [codeOk, Bool.and_eq_true] at hco
    simp only [acodeP] at h
    split at h
    · rename_i T2 m2 h2
      refine wp_seq (wp_mono (acode_sound hs hE n x hco.1 _ _ _ _ _ h2 D ρ w a hd hm ht) ?_)
      rintro e' a1 w1 ⟨rfl, hd1, ρ1, ht1, hm1, hx1⟩
      show y.wp E.P _ a1 w1
      exact wp_mono (ihy hco.2 _ _ _ _ _ h D ρ1 w1 a1 hd1 hm1 ht1) fun e a2 w2 h3 => h3.after hx1
    · cases h
    · refine wp_seq (wp_mono (ihx hco.1 _ _ _ _ _ h D ρ w a hd hm ht) ?_)
      rintro e' a1 w1 ⟨pv', ρ1, rfl, h3⟩
      exact ⟨pv', ρ1, rfl, h3⟩
  | cond c x y ihx ihy =>
    intro hco T m pv T1 m1 h D ρ w a hd hm ht
    simp only [codeOk, Bool.and_eq_true] at hco
    simp only [acodeP] at h
    split at h
    · rename_i hok
      have hv := ev_vr hm ht c hok
      split at h
      · rename_i hc
        rw [hc] at hv
        exact wp_cond (t := true) (hv.eq_of_lit2 rfl) (ihx hco.1 _ _ _ _ _ h D ρ w a hd hm ht)
      · rename_i hc
        rw [hc] at hv
        exact wp_cond (t := false) (hv.eq_of_lit2 rfl) (ihy hco.2 _ _ _ _ _ h D ρ w a hd hm ht)
      · cases h
    · cases h
  | block id x ihx =>
    intro hco T m pv T1 m1 h D ρ w a hd hm ht
    simp only [acodeP] at h
    refine wp_block (wp_mono (ihx hco _ _ _ _ _ h D ρ w a hd hm ht) ?_)
    rintro e' a1 w1 ⟨pv', ρ1, rfl, h3⟩
    exact ⟨pv', ρ1, rfl, h3⟩
  | loop x ihx =>
    intro hco T m pv T1 m1 h D ρ w a hd hm ht
    simp only [acodeP] at h
    exact wp_loop_rounds n (aloopP_sound (acode_sound hs hE n x hco) (ihx hco) n _ _ _ _ _ h D ρ w a hd hm ht)
  | scope x ihx =>
    intro hco T m pv T1 m1 h D ρ w a hd hm ht
    simp only [acodeP] at h
    refine wp_scope_straight (wp_mono (ihx hco _ _ _ _ _ h D ρ w a hd hm ht) ?_)
    rintro e' a1 w1 ⟨pv', ρ1, rfl, h3⟩
    exact ⟨pv', ρ1, rfl, h3⟩
  | skip => intro _ T m pv T1 m1 h; simp [acodeP] at h
  | label l => intro _ T m pv T1 m1 h; simp [acodeP] at h
  | exit id => intro _ T m pv T1 m1 h; simp [acodeP] at h
  | ret => intro _ T m pv T1 m1 h; simp [acodeP] at h
  | rangeFunc f ps x y ihx ihy => intro _ T m pv T1 m1 h; simp [acodeP] at h
  | goto l => intro _ T m pv T1 m1 h; simp [acodeP] at h
  | refuse s => intro _ T m pv T1 m1 h; simp [acodeP] at h

/-- A function's call that panics, where nothing is deferred. -/
def abodyP (E : Env) (self sp : Self) (n : Nat) (f : FuncId) (args : List Value) (m : Mem) : Option (Value × Mem) :=
  if E.good f then match E.P.funcs[f]? with
  | some fn => match fn.body with
    | some c => match acodeP E self sp n c (args ++ List.replicate (fn.ntmps - args.length) undef) m with
      | some (pv, _, m1) => some (pv, m1)
      | none => none
    | none => none
  | none => none
  else none

theorem tr_start {ρ : Ren} {args : List Value} {args' : Array Value} (ht : TR ρ args args') (n : Nat) : TR ρ (args ++ List.replicate (n - args.length) undef) (args' ++ Array.replicate (n - args'.size) undef) := by
  refine ⟨by simp [ht.size], fun i x y hx hy => ?_⟩
  by_cases hi : i < args.length
  · rw [List.getElem?_append_left hi] at hx
    rw [Array.getElem?_append_left (by rw [← ht.size]; exact hi)] at hy
    exact ht.at_ i x y hx hy
  · rw [List.getElem?_append_right (by omega)] at hx
    rw [Array.getElem?_append_right (by rw [← ht.size]; omega)] at hy
    rw [List.getElem?_replicate] at hx
    rw [Array.getElem?_replicate] at hy
    split at hx
    · split at hy
      · cases hx; cases hy; exact vr_undef ρ
      · cases hy
    · cases hx

theorem abodyP_sound {E : Env} {self sp : Self} (hs : CallOK E.P (ainv E self)) (hp : PanOK E.P (ainvP E sp)) (hE : EnvOK E) (n : Nat) : PanOK E.P (abodyP E self sp n) := by
  intro f args m pv m1 h ρ w args' hm ht
  unfold abodyP at h
  split at h
  case isFalse => cases h
  rename_i hgd
  split at h
  · rename_i fn hfn
    split at h
    · rename_i c hc
      split at h
      · rename_i pv0 T1 m2 h2
        cases h
        refine calls_of_wp hfn hc ?_
        refine wp_mono (acodeP_sound hs hp hE n c (hE.good f fn c hgd hfn hc) _ _ _ _ _ h2 [] ρ w _ rfl hm (tr_start ht fn.ntmps)) ?_
        rintro e' a1 w1 ⟨pv', ρ1, rfl, hd1, ht1, hv, hm1, hx1⟩
        exact ⟨hd1, pv', ρ1, rfl, hv, hm1, hx1⟩
      · cases h
    · cases h
  · cases h

end
end Go.Am

/-
  The abstract machine: deferred calls that recover (own work; nothing of a dump).
-/
set_option linter.unusedSimpArgs false
set_option linter.unusedVariables false
namespace Go.Am
noncomputable section

/-- How a frame goes while its deferred call runs: it returns; it panics; it did, and that was recovered. -/
inductive PS where
  | none
  | live (pv : Value)
  | done

def PS.ok (ρ : Ren) : PS → FrameMode → Prop
  | .none, u => u = .returning
  | .live pv, u => ∃ pv', u = .panicking [{ v := pv', recovered := false }] ∧ VR ρ pv pv'
  | .done, u => ∃ pv', u = .panicking [{ v := pv', recovered := true }]

theorem PS.ok_mono {ρ ρ' : Ren} (hl : ρ.le ρ') {s : PS} {u : FrameMode} (h : s.ok ρ u) : s.ok ρ' u := by
  cases s with
  | none => exact h
  | live pv => obtain ⟨pv', h1, h2⟩ := h; exact ⟨pv', h1, h2.mono hl⟩
  | done => exact h

def isRec (o : Oper) : Bool := match o.op with
  | .call c => match c.callee with
    | .builtin .recover => true
    | _ => false
  | _ => false

/-- Operations one behind the other in a deferred call. -/
def aopsS (E : Env) (self : Self) (ops : Array Oper) : List Oper → List Value → Mem → PS → Option (List Value × Mem × PS)
  | [], T, m, s => some (T, m, s)
  | o :: l, T, m, s => match agd ops T o with
    | some true => if okOp E.P o.op then match isRec o with
        | true => match s with
          | .live pv => aopsS E self ops l (aput T o.dst pv) m .done
          | .none => aopsS E self ops l (aput T o.dst .nilIface) m .none
          | .done => aopsS E self ops l (aput T o.dst .nilIface) m .done
        | false => match astep E self T m o with
          | some (v, m1) => aopsS E self ops l (aput T o.dst v) m1 s
          | none => none
      else none
    | some false => aopsS E self ops l (aput T o.dst undef) m s
    | none => none

def SPost (D : List Deferred) (c₀ : Frame) (cs : List Frame) (P : Program) (ρ : Ren) (m : Mem) (w : World) (T1 : List Value) (m1 : Mem) (s1 : PS) (a1 : Act) (cs1 : List Frame) (w1 : World) : Prop :=
  a1.defers = D ∧ ∃ ρ1 u1, cs1 = { c₀ with mode := u1 } :: cs ∧ s1.ok ρ1 u1 ∧ TR ρ1 T1 a1.tmps ∧ MR P ρ1 m1 w1 ∧ Ext ρ m w ρ1 m1 w1

theorem SPost.after {D : List Deferred} {c₀ : Frame} {cs : List Frame} {P : Program} {ρ ρ1 : Ren} {m m1 m2 : Mem} {w w1 w2 : World} {T2 : List Value} {s2 : PS} {a2 : Act} {cs2 : List Frame} (hx : Ext ρ m w ρ1 m1 w1) (h : SPost D c₀ cs P ρ1 m1 w1 T2 m2 s2 a2 cs2 w2) : SPost D c₀ cs P ρ m w T2 m2 s2 a2 cs2 w2 := by
  obtain ⟨h1, ρ2, u2, h2, h3, h4, h5, h6⟩ := h
  exact ⟨h1, ρ2, u2, h2, h3, h4, h5, hx.trans h6⟩

theorem isRec_run {P : Program} {o : Oper} (h : isRec o = true) (a : Act) (w : World) : (execOp a.eval o).run P w = .ok .recover w := by
  unfold isRec at h
  split at h
  · rename_i c ho
    split at h
    · rename_i hc
      simp [execOp, ho, resolve, hc, invoke, builtin]
    · cases h
  · cases h

theorem aopsS_sound {E : Env} {self : Self} (hs : CallOK E.P (ainv E self)) (hnum : noNum E.P) (hx9 : XOK E) {ops : Array Oper} {c₀ : Frame} {cs : List Frame} :
    ∀ (l : List Oper) (k : Nat), (∀ j, l[j]? = ops[k + j]?) → ∀ (T : List Value) (m : Mem) (s : PS) (T1 : List Value) (m1 : Mem) (s1 : PS), aopsS E self ops l T m s = some (T1, m1, s1) → ∀ (D : List Deferred) (ρ : Ren) (u : FrameMode) (w : World) (a : Act), a.defers = D → s.ok ρ u → MR E.P ρ m w → TR ρ T a.tmps →
      ∀ (Q : Exit → Act → List Frame → World → Prop), (∀ a1 cs1 w1, SPost D c₀ cs E.P ρ m w T1 m1 s1 a1 cs1 w1 → Q .normal a1 cs1 w1) → wpOpsS E.P ops Q (List.range' k l.length) a ({ c₀ with mode := u } :: cs) w
  | [], k, _, T, m, s, T1, m1, s1, h, D, ρ, u, w, a, hd, hso, hm, ht, Q, hQ => by
    simp only [aopsS, Option.some.injEq, Prod.mk.injEq] at h
    obtain ⟨rfl, rfl, rfl⟩ := h
    exact hQ a _ w ⟨hd, ρ, u, rfl, hso, ht, hm, Ext.refl' _ hm.dom⟩
  | o :: l, k, hl, T, m, s, T1, m1, s1, h, D, ρ, u, w, a, hd, hso, hm, ht, Q, hQ => by
    have h0 : ops[k]? = some o := by simpa using (hl 0).symm
    have hl' : ∀ j, l[j]? = ops[k + 1 + j]? := fun j => by have := hl (j + 1); simpa [Nat.add_assoc, Nat.add_comm 1 j] using this
    simp only [List.length_cons, List.range'_succ, wpOpsS, h0]
    unfold aopsS at h
    split at h
    · rename_i hg
      rw [if_pos (agd_sound ht.size (fun _ _ _ d _ _ _ x y => ht.at_ d x y) hg)]
      split at h
      · rename_i hok
        split at h
        · rename_i hrec
          rw [isRec_run hrec a w]
          simp only
          split at h
          · rename_i pv
            obtain ⟨pv', rfl, hv⟩ := hso
            simp only [recoverD]
            exact aopsS_sound hs hnum hx9 l (k + 1) hl' _ _ _ _ _ _ h D ρ (.panicking [{ v := pv', recovered := true }]) w _ (by rw [put_defers]; exact hd) ⟨pv', rfl⟩ hm (tr_put ht o.dst hv) Q hQ
          · obtain rfl : u = .returning := hso
            simp only [recoverD]
            exact aopsS_sound hs hnum hx9 l (k + 1) hl' _ _ _ _ _ _ h D ρ .returning w _ (by rw [put_defers]; exact hd) rfl hm (tr_put ht o.dst (.lit rfl)) Q hQ
          · obtain ⟨pv', rfl⟩ := hso
            simp only [recoverD]
            exact aopsS_sound hs hnum hx9 l (k + 1) hl' _ _ _ _ _ _ h D ρ (.panicking [{ v := pv', recovered := true }]) w _ (by rw [put_defers]; exact hd) ⟨pv', rfl⟩ hm (tr_put ht o.dst (.lit rfl)) Q hQ
        · split at h
          · rename_i v m2 hst
            have hw : o.wp E.P a w (fun a' w' => wpOpsS E.P ops Q (List.range' (k + 1) l.length) a' ({ c₀ with mode := u } :: cs) w') (fun e a' w' => Q e a' ({ c₀ with mode := u } :: cs) w') := by
              refine astep_wp hs hnum hx9 hm (ev_all hm ht hok) hok hst fun v' w1 ρ1 hv hm1 hx => ?_
              exact aopsS_sound hs hnum hx9 l (k + 1) hl' _ _ _ _ _ _ h D ρ1 u w1 _ (by rw [put_defers]; exact hd) (PS.ok_mono hx.le hso) hm1 (tr_put (ht.mono hx.le) o.dst hv) Q fun a2 cs2 w2 h2 => hQ a2 cs2 w2 (h2.after hx)
            unfold Oper.wp at hw
            split
            · rename_i w' heq
              rw [heq] at hw
              exact hw.elim
            · exact hw
          · cases h
      · cases h
    · rename_i hg
      rw [if_neg (by rw [agd_sound ht.size (fun _ _ _ d _ _ _ x y => ht.at_ d x y) hg]; simp)]
      exact aopsS_sound hs hnum hx9 l (k + 1) hl' _ _ _ _ _ _ h D ρ u w _ (by rw [put_defers]; exact hd) hso hm (tr_put ht o.dst (vr_undef ρ)) Q hQ
    · cases h

/-- Code of a deferred call. -/
def acodeS (E : Env) (self : Self) (n : Nat) : Code → List Value → Mem → PS → Option (AExit × List Value × Mem × PS)
  | .seq a b, T, m, s => match acodeS E self n a T m s with
    | some (.normal, T1, m1, s1) => acodeS E self n b T1 m1 s1
    | r => r
  | .cond c a b, T, m, s => if okOperand E.P c then match ev T c with
      | .bool true => acodeS E self n a T m s
      | .bool false => acodeS E self n b T m s
      | _ => none
    else none
  | .region _ ops false, T, m, s => match aopsS E self ops ops.toList T m s with
    | some (T1, m1, s1) => some (.normal, T1, m1, s1)
    | none => none
  | c, T, m, s => match acode E self n c T m with
    | some (e, T1, m1) => some (e, T1, m1, s)
    | none => none

def BodySOK (P : Program) (c : Code) (body : List Value → Mem → PS → Option (AExit × List Value × Mem × PS)) : Prop :=
  ∀ T m s e T1 m1 s1, body T m s = some (e, T1, m1, s1) → ∀ (D : List Deferred) (ρ : Ren) (u : FrameMode) (w : World) (a : Act) (c₀ : Frame) (cs : List Frame), a.defers = D → s.ok ρ u → MR P ρ m w → TR ρ T a.tmps →
    c.wpS P (fun e' a1 cs1 w1 => e' = e.to ∧ SPost D c₀ cs P ρ m w T1 m1 s1 a1 cs1 w1) a ({ c₀ with mode := u } :: cs) w

theorem wpS_mono {P : Program} {c : Code} {Q Q' : Exit → Act → List Frame → World → Prop} {a : Act} {cs : List Frame} {w : World} (h : c.wpS P Q a cs w) (hq : ∀ e a cs w, Q e a cs w → Q' e a cs w) : c.wpS P Q' a cs w :=
  fun b k hb hr => let ⟨e, a', cs', w', q, r⟩ := h b k hb hr; ⟨e, a', cs', w', hq _ _ _ _ q, r⟩

theorem plainS {E : Env} {c : Code} {body : List Value → Mem → CRes} (hb : BodyOK E.P c body) : BodySOK E.P c (fun T m s => match body T m with | some (e, T1, m1) => some (e, T1, m1, s) | none => none) := by
  intro T m s e T1 m1 s1 h D ρ u w a c₀ cs hd hso hm ht
  simp only at h
  split at h
  · rename_i e0 T0 m0 h0
    cases h
    refine wpS_of_wp (wp_mono (hb _ _ _ _ _ h0 D ρ w a hd hm ht) ?_)
    rintro e' a1 w1 ⟨rfl, hd1, ρ1, ht1, hm1, hx1⟩
    exact ⟨rfl, hd1, ρ1, u, rfl, PS.ok_mono hx1.le hso, ht1, hm1, hx1⟩
  · cases h

theorem acodeS_sound {E : Env} {self : Self} (hs : CallOK E.P (ainv E self)) (hE : EnvOK E) (n : Nat) : ∀ c : Code, codeOk E.P E.wr E.sr E.mkr c = true → BodySOK E.P c (acodeS E self n c) := by
  intro c
  induction c with
  | seq x y ihx ihy =>
    intro hco T m s e T1 m1 s1 h D ρ u w a c₀ cs hd hso hm ht
    simp only [codeOk, Bool.and_eq_true] at hco
    simp only [acodeS] at h
    split at h
    · rename_i T2 m2 s2 h2
      refine wpS_seq (wpS_mono (ihx hco.1 _ _ _ _ _ _ _ h2 D ρ u w a c₀ cs hd hso hm ht) ?_)
      rintro e' a1 cs1 w1 ⟨rfl, hd1, ρ1, u1, rfl, hso1, ht1, hm1, hx1⟩
      show y.wpS E.P _ a1 _ w1
      refine wpS_mono (ihy hco.2 _ _ _ _ _ _ _ h D ρ1 u1 w1 a1 c₀ cs hd1 hso1 hm1 ht1) ?_
      rintro e'' a2 cs2 w2 ⟨rfl, hp⟩
      exact ⟨rfl, hp.after hx1⟩
    · rename_i r hr
      refine wpS_seq (wpS_mono (ihx hco.1 _ _ _ _ _ _ _ h D ρ u w a c₀ cs hd hso hm ht) ?_)
      rintro e' a1 cs1 w1 ⟨rfl, hp⟩
      cases e with
      | normal => exact absurd h (hr _ _ _)
      | exit id => exact ⟨rfl, hp⟩
      | ret => exact ⟨rfl, hp⟩
  | cond c x y ihx ihy =>
    intro hco T m s e T1 m1 s1 h D ρ u w a c₀ cs hd hso hm ht
    simp only [codeOk, Bool.and_eq_true] at hco
    simp only [acodeS] at h
    split at h
    · rename_i hok
      have hv := ev_vr hm ht c hok
      split at h
      · rename_i hc
        rw [hc] at hv
        exact wpS_cond (t := true) (hv.eq_of_lit2 rfl) (ihx hco.1 _ _ _ _ _ _ _ h D ρ u w a c₀ cs hd hso hm ht)
      · rename_i hc
        rw [hc] at hv
        exact wpS_cond (t := false) (hv.eq_of_lit2 rfl) (ihy hco.2 _ _ _ _ _ _ _ h D ρ u w a c₀ cs hd hso hm ht)
      · cases h
    · cases h
  | region id ops draw =>
    intro hco T m s e T1 m1 s1 h D ρ u w a c₀ cs hd hso hm ht
    cases draw with
    | false =>
      simp only [acodeS] at h
      split at h
      · rename_i T2 m2 s2 h2
        cases h
        refine wpS_region ?_
        have := aopsS_sound hs hE.num hE.ext (ops := ops) (c₀ := c₀) (cs := cs) ops.toList 0 (by simp) _ _ _ _ _ _ h2 D ρ u w a hd hso hm ht (fun e' a1 cs1 w1 => e' = AExit.normal.to ∧ SPost D c₀ cs E.P ρ m w T1 m1 s1 a1 cs1 w1) fun a1 cs1 w1 hp => ⟨rfl, hp⟩
        rw [List.range_eq_range']
        simpa using this
      · cases h
    | true => exact plainS (acode_sound hs hE n _ hco) T m s e T1 m1 s1 h D ρ u w a c₀ cs hd hso hm ht
  | skip => intro hco; exact plainS (acode_sound hs hE n _ hco)
  | label l => intro hco; exact plainS (acode_sound hs hE n _ hco)
  | exit id => intro hco; exact plainS (acode_sound hs hE n _ hco)
  | ret => intro hco; exact plainS (acode_sound hs hE n _ hco)
  | block id x ihx => intro hco; exact plainS (acode_sound hs hE n _ hco)
  | loop x ihx => intro hco; exact plainS (acode_sound hs hE n _ hco)
  | scope x ihx => intro hco; exact plainS (acode_sound hs hE n _ hco)
  | rangeFunc f ps x y ihx ihy => intro hco; exact plainS (acode_sound hs hE n _ hco)
  | goto l => intro hco; exact plainS (acode_sound hs hE n _ hco)
  | refuse t => intro hco; exact plainS (acode_sound hs hE n _ hco)

/-- A deferred call. -/
def abodyS (E : Env) (self : Self) (n : Nat) (f : FuncId) (args : List Value) (m : Mem) (s : PS) : Option (Mem × PS) :=
  if E.good f then match E.P.funcs[f]? with
  | some fn => match fn.body with
    | some c => match acodeS E self n c (args ++ List.replicate (fn.ntmps - args.length) undef) m s with
      | some (.normal, T1, m1, s1) => (ares E.P fn T1 m1).map fun _ => (m1, s1)
      | some (.ret, T1, m1, s1) => (ares E.P fn T1 m1).map fun _ => (m1, s1)
      | _ => none
    | none => none
  | none => none
  else none

theorem abodyS_sound {E : Env} {self : Self} (hs : CallOK E.P (ainv E self)) (hE : EnvOK E) (n : Nat) {f : FuncId} {args : List Value} {m m1 : Mem} {s s1 : PS} (h : abodyS E self n f args m s = some (m1, s1))
    {ρ : Ren} {u : FrameMode} {w : World} {args' : Array Value} (hm : MR E.P ρ m w) (ht : TR ρ args args') (hso : s.ok ρ u) :
    CallsD E.P f args' u w fun e u' w' => ∃ v ρ1, e = .returned v ∧ s1.ok ρ1 u' ∧ MR E.P ρ1 m1 w' ∧ Ext ρ m w ρ1 m1 w' := by
  unfold abodyS at h
  split at h
  case isFalse => cases h
  rename_i hgd
  split at h
  · rename_i fn hfn
    split at h
    · rename_i c hc
      have key : ∀ e T1, e ≠ AExit.exit 0 → (e = .normal ∨ e = .ret) → acodeS E self n c (args ++ List.replicate (fn.ntmps - args.length) undef) m s = some (e, T1, m1, s1) → (∃ v, ares E.P fn T1 m1 = some v) →
          CallsD E.P f args' u w fun e u' w' => ∃ v ρ1, e = .returned v ∧ s1.ok ρ1 u' ∧ MR E.P ρ1 m1 w' ∧ Ext ρ m w ρ1 m1 w' := by
        rintro e T1 _ he h2 ⟨v, hv⟩
        refine callsD_of_wpS hfn hc fun c₀ cs hu => ?_
        have hc0 : c₀ = { c₀ with mode := u } := by cases c₀; simp at hu; subst hu; rfl
        have := acodeS_sound hs hE n c (hE.good f fn c hgd hfn hc) _ _ _ _ _ _ _ h2 [] ρ u w { tmps := args' ++ Array.replicate (fn.ntmps - args'.size) undef, defers := [] } c₀ cs rfl hso hm (tr_start ht fn.ntmps)
        rw [hc0]
        refine wpS_mono this ?_
        rintro e' a1 cs1 w1 ⟨rfl, hd1, ρ1, u1, rfl, hso1, ht1, hm1, hx1⟩
        obtain ⟨v', hrun, _⟩ := ares_sound hm1 ht1 hv
        rcases he with rfl | rfl
        · exact ⟨hd1, u1, rfl, v', hrun, v', ρ1, rfl, hso1, hm1, hx1⟩
        · exact ⟨hd1, u1, rfl, v', hrun, v', ρ1, rfl, hso1, hm1, hx1⟩
      split at h
      · rename_i T1 m2 s2 h2
        cases hv : ares E.P fn T1 m2 with
        | none => rw [hv] at h; cases h
        | some v => rw [hv] at h; cases h; exact key .normal T1 (by simp) (.inl rfl) h2 ⟨v, hv⟩
      · rename_i T1 m2 s2 h2
        cases hv : ares E.P fn T1 m2 with
        | none => rw [hv] at h; cases h
        | some v => rw [hv] at h; cases h; exact key .ret T1 (by simp) (.inr rfl) h2 ⟨v, hv⟩
      · cases h
    · cases h
  · cases h

/-- Operations one behind the other, the last of which defers a call. -/
def aopsD (E : Env) (self : Self) (ops : Array Oper) : List Oper → List Value → Mem → Option (List Value × Mem × FuncId × List Value)
  | [], _, _ => none
  | o :: l, T, m => match agd ops T o with
    | some true => if okOp E.P o.op then match o.op with
        | .defer c => match l, c.callee with
          | [], .value f => match ev T f with
            | .func (.func g) a b => match callableB E.P g with
              | true => some (aput T o.dst undef, m, g, a.toList ++ c.args.toList.map (ev T) ++ b.toList)
              | false => none
            | _ => none
          | _, _ => none
        | _ => match astep E self T m o with
          | some (v, m1) => aopsD E self ops l (aput T o.dst v) m1
          | none => none
      else none
    | some false => aopsD E self ops l (aput T o.dst undef) m
    | none => none

/-- A call that waits to be made. -/
def DefIs (P : Program) (ρ : Ren) (g : FuncId) (dargs : List Value) (d : Deferred) : Prop :=
  ∃ cap : Array Value, d.target = .fn (.func g) cap ∧ TR ρ dargs (d.args ++ cap) ∧ ∀ w : World, (invoke d.target d.args).run P w = .ok (.enter g (d.args ++ cap)) w

theorem DefIs.mono {P : Program} {ρ ρ' : Ren} (hl : ρ.le ρ') {g : FuncId} {dargs : List Value} {d : Deferred} (h : DefIs P ρ g dargs d) : DefIs P ρ' g dargs d := by
  obtain ⟨cap, h1, h2, h3⟩ := h
  exact ⟨cap, h1, h2.mono hl, h3⟩

theorem aopsD_sound {E : Env} {self : Self} (hs : CallOK E.P (ainv E self)) (hnum : noNum E.P) (hx9 : XOK E) {ops : Array Oper} :
    ∀ (l : List Oper) (T : List Value) (m : Mem) (T1 : List Value) (m1 : Mem) (g : FuncId) (dargs : List Value), aopsD E self ops l T m = some (T1, m1, g, dargs) → ∀ (ρ : Ren) (w : World) (a : Act), a.defers = [] → MR E.P ρ m w → TR ρ T a.tmps →
      ∀ (Q : Exit → Act → World → Prop), (∀ a1 w1 ρ1 d, a1.defers = [d] → DefIs E.P ρ1 g dargs d → TR ρ1 T1 a1.tmps → MR E.P ρ1 m1 w1 → Ext ρ m w ρ1 m1 w1 → Q .normal a1 w1) → wpList E.P ops Q l a w
  | [], T, m, T1, m1, g, dargs, h, ρ, w, a, hd, hm, ht, Q, hQ => by simp [aopsD] at h
  | o :: l, T, m, T1, m1, g, dargs, h, ρ, w, a, hd, hm, ht, Q, hQ => by
    unfold aopsD at h
    split at h
    · rename_i hg
      split at h
      · rename_i hok
        simp only [wpList, agd_sound ht.size (fun _ _ _ d _ _ _ x y => ht.at_ d x y) hg, if_true]
        left
        split at h
        · rename_i c ho
          split at h
          · rename_i f hc
            split at h
            · rename_i g0 fa fb hf
              split at h
              · rename_i hcall
                simp only [Option.some.injEq, Prod.mk.injEq] at h
                obtain ⟨rfl, rfl, rfl, rfl⟩ := h
                have hev := ev_all hm ht hok
                have hfv := hev f (by simp [ho, Op.operands, Call.operands, hc])
                rw [hf] at hfv
                obtain ⟨a', b', hfe, hn, hi, hk, hj⟩ := vr_func_inv (a := fa.toList) (b := fb.toList) hfv
                have htr : TR ρ (c.args.toList.map (ev T)) (c.args.map a.eval) := by
                  obtain ⟨h1, h2⟩ := vr_map (T := T) (a := a) (ρ := ρ) (l := c.args) fun x hx => hev x (by simp [ho, Op.operands, Call.operands]; right; simpa using hx)
                  exact ⟨by simp, fun i x y hx hy => h2 i x y hx (by simpa using hy)⟩
                unfold callableB at hcall
                split at hcall
                · rename_i fn hfn
                  obtain ⟨code, hcode⟩ := Option.isSome_iff_exists.1 hcall
                  have hrun : (execOp a.eval o).run E.P w = .ok (.defer { target := .fn (.func g0) ⟨b'⟩, args := (⟨a'⟩ : Array Value) ++ c.args.map a.eval }) w := by
                    simp [execOp, ho, resolve, hc, hfe, Deferred.ofValue]
                  unfold Oper.wp
                  rw [hrun, Oper.upon_defer]
                  refine hQ _ w ρ { target := .fn (.func g0) ⟨b'⟩, args := (⟨a'⟩ : Array Value) ++ c.args.map a.eval } ?_ ⟨⟨b'⟩, rfl, tr_caps hn hi hk hj htr, fun w' => ?_⟩ ?_ hm (Ext.refl' _ hm.dom)
                  · rw [put_defers, hd]
                  · have hn := hnum g0 fn hfn
                    simp only [beq_eq_false_iff_ne, ne_eq] at hn
                    simp [invoke, callFunc, hfn, hn, hcode]
                  · exact tr_put (a := { tmps := a.tmps, defers := { target := .fn (.func g0) ⟨b'⟩, args := (⟨a'⟩ : Array Value) ++ c.args.map a.eval } :: a.defers }) ht o.dst (vr_undef ρ)
                · cases hcall
              · cases h
            · cases h
          · cases h
        · split at h
          · rename_i v m2 hst
            refine astep_wp hs hnum hx9 hm (ev_all hm ht hok) hok hst fun v' w1 ρ1 hv hm1 hx => ?_
            exact aopsD_sound hs hnum hx9 l _ _ _ _ _ _ h ρ1 w1 _ (by rw [put_defers]; exact hd) hm1 (tr_put (ht.mono hx.le) o.dst hv) Q fun a2 w2 ρ2 d h1 h2 h3 h4 h5 => hQ a2 w2 ρ2 d h1 h2 h3 h4 (hx.trans h5)
          · cases h
      · cases h
    · rename_i hg
      simp only [wpList, agd_sound ht.size (fun _ _ _ d _ _ _ x y => ht.at_ d x y) hg, Bool.false_eq_true, if_false]
      exact aopsD_sound hs hnum hx9 l _ _ _ _ _ _ h ρ w _ (by rw [put_defers]; exact hd) hm (tr_put ht o.dst (vr_undef ρ)) Q hQ
    · cases h

/-- Code that defers one call: which one, whether the rest panicked, the temporaries, the memory. -/
def acodeD (E : Env) (self sp : Self) (n : Nat) : Code → List Value → Mem → Option (FuncId × List Value × Option Value × List Value × Mem)
  | .seq a b, T, m => match acode E self n a T m with
    | some (.normal, T1, m1) => acodeD E self sp n b T1 m1
    | some _ => none
    | none => match a with
      | .region _ ops false => match aopsD E self ops ops.toList T m with
        | some (T1, m1, g, dargs) => match acode E self n b T1 m1 with
          | some (.normal, T2, m2) => some (g, dargs, none, T2, m2)
          | some (.ret, T2, m2) => some (g, dargs, none, T2, m2)
          | some _ => none
          | none => match acodeP E self sp n b T1 m1 with
            | some (pv, T2, m2) => some (g, dargs, some pv, T2, m2)
            | none => none
        | none => none
      | _ => none
  | _, _, _ => none

def DPost (P : Program) (ρ : Ren) (m : Mem) (w : World) (g : FuncId) (dargs : List Value) (pan : Option Value) (T1 : List Value) (m1 : Mem) (e : Exit) (a1 : Act) (w1 : World) : Prop :=
  ∃ ρ1 d, a1.defers = [d] ∧ DefIs P ρ1 g dargs d ∧ TR ρ1 T1 a1.tmps ∧ MR P ρ1 m1 w1 ∧ Ext ρ m w ρ1 m1 w1 ∧
    match pan with
    | none => e = .normal ∨ e = .ret
    | some pv => ∃ pv', e = .panic [{ v := pv', recovered := false }] ∧ VR ρ1 pv pv'

theorem acodeD_sound {E : Env} {self sp : Self} (hs : CallOK E.P (ainv E self)) (hp : PanOK E.P (ainvP E sp)) (hE : EnvOK E) (n : Nat) : ∀ c : Code, codeOk E.P E.wr E.sr E.mkr c = true → ∀ T m g dargs pan T1 m1, acodeD E self sp n c T m = some (g, dargs, pan, T1, m1) →
    ∀ (ρ : Ren) (w : World) (a : Act), a.defers = [] → MR E.P ρ m w → TR ρ T a.tmps → c.wp E.P (DPost E.P ρ m w g dargs pan T1 m1) a w := by
  intro c
  induction c with
  | seq x y ihx ihy =>
    intro hco T m g dargs pan T1 m1 h ρ w a hd hm ht
    simp only [codeOk, Bool.and_eq_true] at hco
    simp only [acodeD] at h
    split at h
    · rename_i T2 m2 h2
      refine wp_seq (wp_mono (acode_sound hs hE n x hco.1 _ _ _ _ _ h2 [] ρ w a hd hm ht) ?_)
      rintro e' a1 w1 ⟨rfl, hd1, ρ1, ht1, hm1, hx1⟩
      show y.wp E.P _ a1 w1
      refine wp_mono (ihy hco.2 _ _ _ _ _ _ _ h ρ1 w1 a1 hd1 hm1 ht1) ?_
      rintro e a2 w2 ⟨ρ2, d, h3, h4, h5, h6, h7, h8⟩
      exact ⟨ρ2, d, h3, h4, h5, h6, hx1.trans h7, h8⟩
    · cases h
    · split at h
      · rename_i id ops
        split at h
        · rename_i T2 m2 g0 da0 h2
          refine wp_seq (wp_region_list (aopsD_sound hs hE.num hE.ext _ _ _ _ _ _ _ h2 ρ w a hd hm ht _ fun a1 w1 ρ1 d hd1 hdi ht1 hm1 hx1 => ?_))
          show y.wp E.P _ a1 w1
          split at h
          · rename_i T3 m3 h3
            simp only [Option.some.injEq, Prod.mk.injEq] at h
            obtain ⟨rfl, rfl, rfl, rfl, rfl⟩ := h
            refine wp_mono (acode_sound hs hE n y hco.2 _ _ _ _ _ h3 [d] ρ1 w1 a1 hd1 hm1 ht1) ?_
            rintro e' a2 w2 ⟨rfl, hd2, ρ2, ht2, hm2, hx2⟩
            exact ⟨ρ2, d, hd2, hdi.mono hx2.le, ht2, hm2, hx1.trans hx2, .inl rfl⟩
          · rename_i T3 m3 h3
            simp only [Option.some.injEq, Prod.mk.injEq] at h
            obtain ⟨rfl, rfl, rfl, rfl, rfl⟩ := h
            refine wp_mono (acode_sound hs hE n y hco.2 _ _ _ _ _ h3 [d] ρ1 w1 a1 hd1 hm1 ht1) ?_
            rintro e' a2 w2 ⟨rfl, hd2, ρ2, ht2, hm2, hx2⟩
            exact ⟨ρ2, d, hd2, hdi.mono hx2.le, ht2, hm2, hx1.trans hx2, .inr rfl⟩
          · cases h
          · split at h
            · rename_i pv T3 m3 h3
              simp only [Option.some.injEq, Prod.mk.injEq] at h
              obtain ⟨rfl, rfl, rfl, rfl, rfl⟩ := h
              refine wp_mono (acodeP_sound hs hp hE n y hco.2 _ _ _ _ _ h3 [d] ρ1 w1 a1 hd1 hm1 ht1) ?_
              rintro e' a2 w2 ⟨pv', ρ2, rfl, hd2, ht2, hv2, hm2, hx2⟩
              exact ⟨ρ2, d, hd2, hdi.mono hx2.le, ht2, hm2, hx1.trans hx2, pv', rfl, hv2⟩
            · cases h
        · cases h
      · cases h
  | region id ops draw => intro _ T m g dargs pan T1 m1 h; simp [acodeD] at h
  | cond c x y ihx ihy => intro _ T m g dargs pan T1 m1 h; simp [acodeD] at h
  | block id x ihx => intro _ T m g dargs pan T1 m1 h; simp [acodeD] at h
  | loop x ihx => intro _ T m g dargs pan T1 m1 h; simp [acodeD] at h
  | scope x ihx => intro _ T m g dargs pan T1 m1 h; simp [acodeD] at h
  | skip => intro _ T m g dargs pan T1 m1 h; simp [acodeD] at h
  | label l => intro _ T m g dargs pan T1 m1 h; simp [acodeD] at h
  | exit id => intro _ T m g dargs pan T1 m1 h; simp [acodeD] at h
  | ret => intro _ T m g dargs pan T1 m1 h; simp [acodeD] at h
  | rangeFunc f ps x y ihx ihy => intro _ T m g dargs pan T1 m1 h; simp [acodeD] at h
  | goto l => intro _ T m g dargs pan T1 m1 h; simp [acodeD] at h
  | refuse s => intro _ T m g dargs pan T1 m1 h; simp [acodeD] at h

/-- A call of a function that defers one call, which recovers what there is. -/
def abodyD (E : Env) (self sp : Self) (n : Nat) (f : FuncId) (args : List Value) (m : Mem) : Option (Value × Mem) :=
  if E.good f then match E.P.funcs[f]? with
  | some fn => match fn.body with
    | some c => match acodeD E self sp n c (args ++ List.replicate (fn.ntmps - args.length) undef) m with
      | some (g, dargs, pan, T2, m2) => match abodyS E self n g dargs m2 (match pan with | none => .none | some pv => .live pv) with
        | some (m3, .none) => (ares E.P fn T2 m3).map (·, m3)
        | some (m3, .done) => (ares E.P fn T2 m3).map (·, m3)
        | _ => none
      | none => none
    | none => none
  | none => none
  else none

theorem abodyD_sound {E : Env} {self sp : Self} (hs : CallOK E.P (ainv E self)) (hp : PanOK E.P (ainvP E sp)) (hE : EnvOK E) (n : Nat) : CallOK E.P (abodyD E self sp n) := by
  intro f args m v m1 h ρ w args' hm ht
  unfold abodyD at h
  split at h
  case isFalse => cases h
  rename_i hgd
  split at h
  · rename_i fn hfn
    split at h
    · rename_i c hc
      split at h
      · rename_i g dargs pan T2 m2 h2
        have key : ∀ m3 s3, (s3 = PS.none ∨ s3 = PS.done) → abodyS E self n g dargs m2 (match pan with | none => .none | some pv => .live pv) = some (m3, s3) → (ares E.P fn T2 m3).map (·, m3) = some (v, m1) → Calls E.P f args' w (Ends E.P ρ m w v m1) := by
          intro m3 s3 hs3 h3 h4
          obtain ⟨h4, rfl⟩ := map_pair h4
          refine calls_of_wp_defers hfn hc ?_
          refine wp_mono (acodeD_sound hs hp hE n c (hE.good f fn c hgd hfn hc) _ _ _ _ _ _ _ h2 ρ w _ rfl hm (tr_start ht fn.ntmps)) ?_
          rintro e a1 w1 ⟨ρ1, d, hd1, ⟨cap, hdt, hda, hdi⟩, ht1, hm1, hx1, hpan⟩
          have leave : ∀ u, u ≠ .run → (match pan with | none => PS.none | some pv => .live pv).ok ρ1 u → Leaves E.P fn a1.tmps (Ends E.P ρ m w v m1) a1.defers u w1 := by
            intro u hu hso
            rw [hd1]
            obtain ⟨dt, dar⟩ := d
            simp only at hdt hdi hda
            subst hdt
            refine leaves_cons hu (hdi w1) ?_
            refine (abodyS_sound hs hE n h3 hm1 hda hso).mono ?_
            rintro e' u' w' ⟨v9, ρ2, rfl, hso2, hm2, hx2⟩
            have hset : settle u' = .returning := by
              rcases hs3 with rfl | rfl
              · rw [show u' = .returning from hso2]; rfl
              · obtain ⟨pv', rfl⟩ := hso2; rfl
            show Leaves E.P fn a1.tmps _ [] (settle u') w'
            rw [hset]
            obtain ⟨v', hrun, hv⟩ := ares_sound hm2 (ht1.mono hx2.le) h4
            exact ⟨v', hrun, v', ρ2, rfl, hv, hm2, hx1.trans hx2⟩
          cases pan with
          | none =>
            rcases hpan with rfl | rfl
            · exact leave .returning (by simp) rfl
            · exact leave .returning (by simp) rfl
          | some pv =>
            obtain ⟨pv', rfl, hv⟩ := hpan
            exact leave (.panicking [{ v := pv', recovered := false }]) (by simp) ⟨pv', rfl, hv⟩
        split at h
        · rename_i m3 h3; exact key m3 .none (.inl rfl) h3 h
        · rename_i m3 h3; exact key m3 .done (.inr rfl) h3 h
        · cases h
      · cases h
    · cases h
  · cases h

/-- A program's functions, with so much fuel, where that is known: what they answer; what they panic with. -/
def runQ (E : Env) (M : Mem) (K : List Fact) : Nat → Self × Self
  | 0 => (fun _ _ _ => none, fun _ _ _ => none)
  | n + 1 => (fun f args m => match hasF K f && eqM m M with
      | true => match lookF K f args with
        | some v => some (v, m)
        | none => none
      | false => match abody E (runQ E M K n).1 (n + 1) f args m with
        | some r => some r
        | none => abodyD E (runQ E M K n).1 (runQ E M K n).2 (n + 1) f args m,
    fun f args m => abodyP E (runQ E M K n).1 (runQ E M K n).2 (n + 1) f args m)

theorem runQ_sound {E : Env} (hE : EnvOK E) {M : Mem} {K : List Fact} (hK : ∀ F, F ∈ K → F.holds E.P M) : ∀ n, CallOK E.P (runQ E M K n).1 ∧ PanOK E.P (runQ E M K n).2
  | 0 => ⟨fun f args m v m1 h => by simp [runQ] at h, fun f args m v m1 h => by simp [runQ] at h⟩
  | n + 1 => by
    obtain ⟨h1, h2⟩ := runQ_sound hE hK n
    have hs := ainv_sound hE.globals hE.fast h1
    have hp := ainvP_sound hE.globals h2
    refine ⟨?_, abodyP_sound hs hp hE (n + 1)⟩
    intro f args m v m1 h
    simp only [runQ] at h
    split at h
    · rename_i hb
      simp only [Bool.and_eq_true] at hb
      split at h
      · rename_i v0 hl
        cases h
        obtain ⟨F, hF, rfl, rfl, rfl⟩ := lookF_sound hl
        rw [eqM_sound hb.2]
        exact hK F hF
      · cases h
    · split at h
      · rename_i r hr
        cases h
        exact abody_sound hs hE (n + 1) _ _ _ _ _ hr
      · exact abodyD_sound hs hp hE (n + 1) _ _ _ _ _ h

end
end Go.Am

/-
  Cutting a text and putting parts together: what is asked of the calls; texts cut are put together again (own work).
-/
set_option linter.unusedSimpArgs false
set_option linter.unusedVariables false
namespace Go.Am.Seat
open Go.Proofs Go.Am
set_option maxRecDepth 100000

/-- What was there is as it was. -/
def Kept (m m' : Mem) : Prop := m.length ≤ m'.length ∧ ∀ k, k < m.length → m'[k]? = m[k]?
theorem Kept.refl (m : Mem) : Kept m m := ⟨Nat.le_refl _, fun _ _ => rfl⟩
theorem Kept.trans {a b c : Mem} (h : Kept a b) (k : Kept b c) : Kept a c := ⟨Nat.le_trans h.1 k.1, fun j hj => by rw [k.2 j (by have := h.1; omega), h.2 j hj]⟩
theorem Kept.app (m l : Mem) : Kept m (m ++ l) := ⟨by simp, fun k hk => by rw [List.getElem?_append_left hk]⟩

theorem RS.keep {m m' : Mem} (hk : Kept m m') {v : Value} {l : List Value} (h : RS m v l) : RS m' v l := by
  rcases h with h | ⟨b, o, c, rfl, h⟩
  · exact .inl h
  · refine .inr ⟨b, o, c, rfl, fun i x hx => ?_⟩
    have h1 := h i x hx
    have hb : b < m.length := by
      apply Classical.byContradiction
      intro hno
      unfold cellAt look at h1
      rw [List.getElem?_eq_none (by omega)] at h1
      cases h1
    rw [cellAt_same (hk.2 b hb)]
    exact h1

/-- A call that cuts a text. -/
def CSplit (f : FuncId) (self : Self) : Prop := ∀ (m : Mem) (s : ByteArray) (szs : List Int) (vs : Value), RS m vs (szs.map (Value.int .i64)) → szs.length ≤ 20 → s.data.toList.length ≤ 1000 → (∀ n ∈ szs, (Lit.int .i64 n).wf = true) →
  ∃ v m', ainv E self f [.string s, vs] m = some (.tuple ⟨[v, .int .i64 (splitE s szs : Nat)]⟩, m') ∧ RS m' v ((splitL s szs).map Value.string) ∧ Kept m m'
/-- No slice is longer than its room. -/
def CapOk (v : Value) : Prop := match v with | .slice _ l c => l ≤ c | _ => True
/-- The same, and the answer has room for what it holds. -/
def CSplitC (f : FuncId) (self : Self) : Prop := ∀ (m : Mem) (s : ByteArray) (szs : List Int) (vs : Value), RS m vs (szs.map (Value.int .i64)) → szs.length ≤ 20 → s.data.toList.length ≤ 1000 → (∀ n ∈ szs, (Lit.int .i64 n).wf = true) →
  ∃ v m', ainv E self f [.string s, vs] m = some (.tuple ⟨[v, .int .i64 (splitE s szs : Nat)]⟩, m') ∧ RS m' v ((splitL s szs).map Value.string) ∧ Kept m m' ∧ CapOk v
/-- A call that puts parts together. -/
def CJoin (f : FuncId) (self : Self) : Prop := ∀ (m : Mem) (szs : List Int) (ps : List ByteArray) (vs vp : Value), RS m vs (szs.map (Value.int .i64)) → RS m vp (ps.map Value.string) → szs.length ≤ 20 → ps.length ≤ 20 → (catL ps).size ≤ 100000000 → (∀ n ∈ szs, (Lit.int .i64 n).wf = true) → CapOk vp →
  ainv E self f [vs, vp] m = some (.tuple ⟨[.string (joinS szs ps), .int .i64 (joinE szs ps : Nat)]⟩, m)
/-- A call that asks whether two rows are alike. -/
def CAlike (f : FuncId) (self : Self) : Prop := ∀ (m : Mem) (la lb : List ByteArray) (va vb : Value), RS m va (la.map Value.string) → RS m vb (lb.map Value.string) → la.length ≤ 1000 → lb.length ≤ 1000 → ainv E self f [va, vb] m = some (.bool (decide (la = lb)), m)

/-! Texts cut. -/
theorem extract_size {s : ByteArray} {a b : Nat} (h : a ≤ b) (hb : b ≤ s.data.toList.length) : (s.extract a b).data.toList.length = b - a := by
  have h1 : (s.extract a b).size = b - a := by
    rw [ByteArray.size_extract]
    have : s.size = s.data.toList.length := rfl
    omega
  exact h1
theorem extract_all (s : ByteArray) : s.extract 0 s.data.toList.length = s := by
  apply ba_eq
  rw [ByteArray.data_extract]
  simp only [Array.toList_extract, List.extract_eq_take_drop, List.drop_zero, Nat.sub_zero]
  rw [List.take_of_length_le (Nat.le_refl _)]
theorem extract_cat {s : ByteArray} {a b c : Nat} (h1 : a ≤ b) (h2 : b ≤ c) : s.extract a b ++ s.extract b c = s.extract a c := by
  apply ba_eq
  rw [ba_append, ByteArray.data_extract, ByteArray.data_extract, ByteArray.data_extract]
  simp only [Array.toList_extract, List.extract_eq_take_drop]
  rw [show c - a = (b - a) + (c - b) by omega, List.take_add, List.drop_drop, show a + (b - a) = b by omega]

theorem cat_cuts {s : ByteArray} {szs : List Int} : ∀ k, catL ((List.range k).map (cutAt s szs)) = s.extract 0 (psum szs k)
  | 0 => by
    apply ba_eq
    rw [ByteArray.data_extract]
    simp [psum_zero]
    rfl
  | k + 1 => by
    rw [List.range_succ, List.map_append]
    have : catL ((List.range k).map (cutAt s szs) ++ [cutAt s szs k]) = catL ((List.range k).map (cutAt s szs)) ++ cutAt s szs k := by simp [catL]
    rw [List.map_cons, List.map_nil, this, cat_cuts k]
    exact extract_cat (by omega) (psum_le szs (by omega))

/-- What was cut rightly is put together as it was. -/
theorem split_join {s : ByteArray} {szs : List Int} (h : splitE s szs = 0) : joinE szs (splitL s szs) = 0 ∧ joinS szs (splitL s szs) = s := by
  have hn : szs.any (fun n => decide (n < 0)) = false := by
    cases hb : szs.any (fun n => decide (n < 0)) with
    | false => rfl
    | true => unfold splitE at h; rw [if_pos hb] at h; cases h
  have htot : psum szs szs.length = s.data.toList.length := by
    unfold splitE at h
    rw [hn, if_neg (by simp)] at h
    split at h
    · cases h
    · split at h
      · cases h
      · omega
  have hl : splitL s szs = (List.range szs.length).map (cutAt s szs) := by unfold splitL; rw [if_pos h]
  have hf : fitsB szs (splitL s szs) = true := by
    refine fits_all fun i n t h1 h2 => ?_
    rw [hl, List.getElem?_map] at h2
    have hi : i < szs.length := (List.getElem?_eq_some_iff.1 h1).1
    rw [List.getElem?_range hi] at h2
    simp only [Option.map_some, Option.some.injEq] at h2
    subst h2
    unfold cutAt
    have hle := psum_le szs (show i + 1 ≤ szs.length by omega)
    have hst := psum_step h1
    rw [extract_size (by omega) (by omega)]
    have h0 : 0 ≤ n := by
      rw [List.any_eq_false] at hn
      have := hn n (List.mem_of_getElem? h1)
      simpa using this
    omega
  have he : joinE szs (splitL s szs) = 0 := by
    unfold joinE
    rw [if_neg (by rw [hl]; simp), if_pos hf]
  refine ⟨he, ?_⟩
  unfold joinS
  rw [if_pos he, hl, cat_cuts, htot, extract_all]
theorem split_small {s : ByteArray} {szs : List Int} (hs : s.data.toList.length ≤ 1000) : (catL (splitL s szs)).size ≤ 1000 := by
  unfold splitL
  split
  · rename_i h
    rw [cat_cuts, ByteArray.size_extract]
    have : s.size = s.data.toList.length := rfl
    omega
  · show (0 : Nat) ≤ 1000
    omega
theorem split_length (s : ByteArray) (szs : List Int) : (splitL s szs).length ≤ szs.length := by
  unfold splitL
  split <;> simp

/-! Slices as arguments. -/
theorem sliceArg_ints {N : Nat} {m a m'} (h : SliceArg N [.int .i64] m a m') : ∃ szs : List Int, RS m' a (szs.map (Value.int .i64)) ∧ (∀ n ∈ szs, (Lit.int .i64 n).wf = true) ∧ Kept m m' := by
  cases h with
  | nil => exact ⟨[], .inl ⟨rfl, rfl⟩, fun n h => (by cases h), Kept.refl m⟩
  | row hlc hlen hall =>
    rename_i off len cap row vs
    simp only [List.length_cons, List.length_nil, Nat.zero_add, Nat.mul_one] at hlen hall
    have each : ∀ (i : Nat) (v : Value), vs[i]? = some v → ∃ n, v = .int .i64 n ∧ (Lit.int .i64 n).wf = true := by
      intro i v hv
      have hi : i < len := by rw [← hlen]; exact (List.getElem?_eq_some_iff.1 hv).1
      have h1 := (hall i hi).2 0 (.int .i64) v rfl (by rw [List.getElem?_take, if_pos (by omega), List.getElem?_drop]; simpa using hv)
      exact h1
    let f : Value → Int := fun v => match v with | .int _ n => n | _ => 0
    have hvs : vs = (vs.map f).map (Value.int .i64) := by
      rw [List.map_map]
      apply List.ext_getElem?
      intro i
      rw [List.getElem?_map]
      cases hv : vs[i]? with
      | none => rfl
      | some v =>
        obtain ⟨n, rfl, _⟩ := each i v hv
        rfl
    refine ⟨vs.map f, .inr ⟨m.length, off, cap, by rw [List.length_map, List.length_map, hlen], fun i x hx => ?_⟩, fun n hn => ?_, Kept.app _ _⟩
    · rw [← hvs] at hx
      have hm : (m ++ [Blk.row true row (ahead off vs)])[m.length]? = some (.row true row (ahead off vs)) := by simp
      rw [cellAt_row hm, ahead_get]
      exact hx
    · obtain ⟨v, hv, rfl⟩ := List.mem_map.1 hn
      obtain ⟨i, hi⟩ := List.getElem?_of_mem hv
      obtain ⟨n, rfl, hw⟩ := each i v hi
      exact hw

theorem sliceArg_texts {N : Nat} {m a m'} (h : SliceArg N [.str] m a m') : ∃ ps : List ByteArray, RS m' a (ps.map Value.string) ∧ (∀ s ∈ ps, s.size ≤ N) ∧ Kept m m' ∧ CapOk a := by
  cases h with
  | nil => exact ⟨[], .inl ⟨rfl, rfl⟩, fun n h => (by cases h), Kept.refl m, Nat.le_refl _⟩
  | row hlc hlen hall =>
    rename_i off len cap row vs
    simp only [List.length_cons, List.length_nil, Nat.zero_add, Nat.mul_one] at hlen hall
    have each : ∀ (i : Nat) (v : Value), vs[i]? = some v → ∃ s, v = .string s ∧ s.size ≤ N := by
      intro i v hv
      have hi : i < len := by rw [← hlen]; exact (List.getElem?_eq_some_iff.1 hv).1
      exact (hall i hi).2 0 .str v rfl (by rw [List.getElem?_take, if_pos (by omega), List.getElem?_drop]; simpa using hv)
    let f : Value → ByteArray := fun v => match v with | .string s => s | _ => ⟨#[]⟩
    have hvs : vs = (vs.map f).map Value.string := by
      rw [List.map_map]
      apply List.ext_getElem?
      intro i
      rw [List.getElem?_map]
      cases hv : vs[i]? with
      | none => rfl
      | some v =>
        obtain ⟨n, rfl, _⟩ := each i v hv
        rfl
    refine ⟨vs.map f, .inr ⟨m.length, off, cap, by rw [List.length_map, List.length_map, hlen], fun i x hx => ?_⟩, fun n hn => ?_, Kept.app _ _, hlc⟩
    · rw [← hvs] at hx
      have hm : (m ++ [Blk.row true row (ahead off vs)])[m.length]? = some (.row true row (ahead off vs)) := by simp
      rw [cellAt_row hm, ahead_get]
      exact hx
    · obtain ⟨v, hv, rfl⟩ := List.mem_map.1 hn
      obtain ⟨i, hi⟩ := List.getElem?_of_mem hv
      obtain ⟨n, rfl, hw⟩ := each i v hi
      exact hw

theorem cat_small {N : Nat} {ps : List ByteArray} (h : ∀ s ∈ ps, s.size ≤ N) : (catL ps).size ≤ ps.length * N := by
  rw [catL_size]
  induction ps with
  | nil => simp
  | cons x l ih =>
    have := ih fun s hs => h s (by simp [hs])
    have h1 := h x (by simp)
    simp only [List.map_cons, List.sum_cons, List.length_cons, Nat.succ_mul]
    omega
end Go.Am.Seat
