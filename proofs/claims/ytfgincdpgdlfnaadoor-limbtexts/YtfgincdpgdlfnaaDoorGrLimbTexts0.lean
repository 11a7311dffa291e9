/-
  Texts of my own, put together: KD1, 1, 2, 3, 4, F, 5.
-/
import Derived.WalkKit
set_option linter.unusedSimpArgs false
set_option linter.unusedVariables false
set_option maxRecDepth 100000
namespace Go.Am
theorem bls : (∀ b : Bool, (b && b) = b) ∧ (∀ b : Bool, (b && true) = b) ∧ (∀ b : Bool, (true && b) = b) ∧ (∀ b : Bool, (false && b) = false) ∧ (∀ b : Bool, (b && false) = false) ∧ (!true) = false ∧ (!false) = true ∧ (∀ b : Bool, (b || true) = true) ∧ (∀ b : Bool, (true || b) = true) ∧ (∀ b : Bool, (false || b) = b) ∧ (∀ b : Bool, (b || false) = b) :=
  ⟨Bool.and_self, Bool.and_true, Bool.true_and, Bool.false_and, Bool.and_false, rfl, rfl, Bool.or_true, Bool.true_or, Bool.false_or, Bool.or_false⟩
end Go.Am
namespace Go.Am.Kn
structure DI (b u d y1 y0 q r k : Nat) : Prop where
  split : u = q * y1 + r
  small : r < b
  rounds : k * y1 ≤ r
  least : (u * b + d) / (y1 * b + y0) ≤ q
  most : q ≤ b + 1
theorem mul_split (q y1 b y0 : Nat) : q * (y1 * b + y0) = q * y1 * b + q * y0 := by rw [Nat.mul_add, Nat.mul_assoc]
theorem cmp_step {b u d y1 y0 q r : Nat} (hu : u = q * y1 + r) : q * (y1 * b + y0) ≤ u * b + d ↔ q * y0 ≤ b * r + d := by
  rw [mul_split, hu, Nat.add_mul, Nat.mul_comm r b]
  generalize q * y1 * b = p
  generalize b * r = s
  generalize q * y0 = t
  omega
theorem DI.init {b u d y1 y0 : Nat} (hb : b ≤ 2 * y1) (hy : y1 < b) (h0 : y0 < b) (hd : d < b) (hu : u < y1 * b + y0) : DI b u d y1 y0 (u / y1) (u % y1) 0 := by
  have hpos : 0 < y1 := by omega
  have hbp : 0 < b := by omega
  refine ⟨?_, ?_, by omega, ?_, ?_⟩
  · rw [Nat.mul_comm]; exact (Nat.div_add_mod u y1).symm
  · exact Nat.lt_trans (Nat.mod_lt _ hpos) hy
  · have h1 : (u * b + d) / (y1 * b + y0) ≤ (u * b + d) / (b * y1) := by
      apply Nat.div_le_div_left
      · rw [Nat.mul_comm b y1]; exact Nat.le_add_right _ _
      · exact Nat.mul_pos hbp hpos
    have h2 : (u * b + d) / (b * y1) = u / y1 := by
      rw [← Nat.div_div_eq_div_mul]
      congr 1
      rw [Nat.mul_comm u b, Nat.mul_add_div hbp, Nat.div_eq_of_lt hd, Nat.add_zero]
    omega
  · have h1 : u < y1 * (b + 2) := by
      rw [Nat.mul_add]
      generalize y1 * b = p at *
      omega
    have := Nat.div_lt_of_lt_mul h1
    omega
theorem DI.rounds2 {b u d y1 y0 q r k : Nat} (h : DI b u d y1 y0 q r k) (hb : b ≤ 2 * y1) : k < 2 := by
  have h1 : k * y1 < 2 * y1 := Nat.lt_of_le_of_lt h.rounds (Nat.lt_of_lt_of_le h.small hb)
  exact Nat.lt_of_mul_lt_mul_right h1
theorem DI.stop {b u d y1 y0 q r k : Nat} (h : DI b u d y1 y0 q r k) (hy : 0 < y1 * b + y0) (hc : q * y0 ≤ b * r + d) : q = (u * b + d) / (y1 * b + y0) := by
  have h1 := (cmp_step (b := b) (d := d) (y0 := y0) h.split).2 hc
  have h2 := (Nat.le_div_iff_mul_le hy).2 h1
  exact Nat.le_antisymm h2 h.least
theorem DI.gt {b u d y1 y0 q r k : Nat} (h : DI b u d y1 y0 q r k) (hF : (u * b + d) / (y1 * b + y0) < b) (hc : b ≤ q ∨ b * r + d < q * y0) : (u * b + d) / (y1 * b + y0) < q := by
  rcases hc with hc | hc
  · exact Nat.lt_of_lt_of_le hF hc
  · have h1 : ¬ q * (y1 * b + y0) ≤ u * b + d := fun h9 => by have := (cmp_step (b := b) (d := d) (y0 := y0) h.split).1 h9; omega
    refine Nat.div_lt_of_lt_mul ?_
    rw [Nat.mul_comm (y1 * b + y0) q]
    exact Nat.lt_of_not_le h1
theorem DI.one {b u d y1 y0 q r k : Nat} (h : DI b u d y1 y0 q r k) (hF : (u * b + d) / (y1 * b + y0) < b) (hc : b ≤ q ∨ b * r + d < q * y0) : u = (q - 1) * y1 + (r + y1) := by
  have h1 := Nat.lt_of_le_of_lt (Nat.zero_le _) (h.gt hF hc)
  obtain ⟨p, rfl⟩ : ∃ p, q = p + 1 := ⟨q - 1, by omega⟩
  rw [Nat.add_sub_cancel]
  have := h.split
  rw [Nat.add_mul, Nat.one_mul] at this
  omega
theorem DI.next {b u d y1 y0 q r k : Nat} (h : DI b u d y1 y0 q r k) (hF : (u * b + d) / (y1 * b + y0) < b) (hc : b ≤ q ∨ b * r + d < q * y0) (hr : r + y1 < b) : DI b u d y1 y0 (q - 1) (r + y1) (k + 1) := by
  have h1 := h.gt hF hc
  refine ⟨h.one hF hc, hr, ?_, Nat.le_sub_one_of_lt h1, by have := h.most; omega⟩
  rw [Nat.add_mul, Nat.one_mul]
  have := h.rounds
  omega
theorem DI.break {b u d y1 y0 q r k : Nat} (h : DI b u d y1 y0 q r k) (hy : 0 < y1 * b + y0) (h0 : y0 < b) (hF : (u * b + d) / (y1 * b + y0) < b) (hc : b ≤ q ∨ b * r + d < q * y0) (hr : b ≤ r + y1) : q - 1 = (u * b + d) / (y1 * b + y0) := by
  have h1 := h.gt hF hc
  have h2 := h.one hF hc
  have h3 : (q - 1) * y0 ≤ b * (r + y1) + d := by
    have h4 : (q - 1) * y0 ≤ b * b := Nat.mul_le_mul (by have := h.most; omega) (by omega)
    have h5 : b * b ≤ b * (r + y1) := Nat.mul_le_mul_left _ hr
    omega
  have h6 := (cmp_step (b := b) (d := d) (y0 := y0) h2).2 h3
  have h7 := (Nat.le_div_iff_mul_le hy).2 h6
  exact Nat.le_antisymm h7 (Nat.le_sub_one_of_lt h1)
theorem two_digits {b u d Y : Nat} (hu : u < Y) (hd : d < b) : (u * b + d) / Y < b := by
  refine Nat.div_lt_of_lt_mul ?_
  have : (u + 1) * b ≤ Y * b := Nat.mul_le_mul_right _ hu
  rw [Nat.add_mul, Nat.one_mul] at this
  omega
theorem scaled {V y P : Nat} (hP : 0 < P) (hy : 0 < y) : V * P / (y * P) = V / y ∧ V * P % (y * P) / P = V % y := by
  refine ⟨Nat.mul_div_mul_right _ _ hP, ?_⟩
  rw [Nat.mul_mod_mul_right, Nat.mul_div_cancel _ hP]
end Go.Am.Kn
namespace Go.Am
structure At where
  r : Nat
  n : Nat
  s : Nat
abbrev Ren := Nat → Option At
def lit0 : Value → Bool
  | .bool _ => true
  | .int _ _ => true
  | .float _ _ => true
  | .complex _ _ _ => true
  | .string _ => true
  | .pointer none => true
  | .slice none _ _ => true
  | .map none => true
  | .chan none => true
  | .nilFunc => true
  | .nilIface => true
  | .func _ a b => a.toList.isEmpty && b.toList.isEmpty
  | _ => false
def lit1 : Value → Bool
  | .agg cs => cs.toList.all lit0
  | v => lit0 v
def lit2 : Value → Bool
  | .tuple vs => vs.toList.all lit1
  | .iface _ v => lit1 v
  | v => lit1 v
def junk : Value := .chan (some 0)
inductive VR (ρ : Ren) : Value → Value → Prop
  | lit {v : Value} : lit2 v = true → VR ρ v v
  | junk {v : Value} : VR ρ junk v
  | ptr {b o : Nat} {x : At} : ρ b = some x → VR ρ (.pointer (some ⟨b, o, none⟩)) (.pointer (some ⟨x.r, o, none⟩))
  | slice {b o n c c' : Nat} {x : At} : ρ b = some x → (c' = c ∨ (c ≤ c' ∧ (x.s = 0 ∨ o + c' * x.s ≤ x.n))) → VR ρ (.slice (some ⟨b, o, none⟩) n c) (.slice (some ⟨x.r, o, none⟩) n c')
  | agg {l l' : List Value} : l.length = l'.length → (∀ (i : Nat) (x y : Value), l[i]? = some x → l'[i]? = some y → VR ρ x y) → VR ρ (.agg ⟨l⟩) (.agg ⟨l'⟩)
  | tuple {l l' : List Value} : l.length = l'.length → (∀ (i : Nat) (x y : Value), l[i]? = some x → l'[i]? = some y → VR ρ x y) → VR ρ (.tuple ⟨l⟩) (.tuple ⟨l'⟩)
  | func {fn : Fn} {a a' b b' : List Value} : a.length = a'.length → (∀ (i : Nat) (x y : Value), a[i]? = some x → a'[i]? = some y → VR ρ x y) → b.length = b'.length →
      (∀ (i : Nat) (x y : Value), b[i]? = some x → b'[i]? = some y → VR ρ x y) → VR ρ (.func fn ⟨a⟩ ⟨b⟩) (.func fn ⟨a'⟩ ⟨b'⟩)
def Ren.le (ρ ρ' : Ren) : Prop := ∀ b x, ρ b = some x → ρ' b = some x
theorem Ren.le_refl (ρ : Ren) : ρ.le ρ := fun _ _ h => h
theorem Ren.le_trans {a b c : Ren} (h : a.le b) (k : b.le c) : a.le c := fun _ _ e => k _ _ (h _ _ e)
theorem VR.mono {ρ ρ' : Ren} (hl : ρ.le ρ') {v v' : Value} (h : VR ρ v v') : VR ρ' v v' := by
  induction h with
  | lit h => exact .lit h
  | junk => exact .junk
  | ptr h => exact .ptr (hl _ _ h)
  | slice h hc => exact .slice (hl _ _ h) hc
  | agg hn _ ih => exact .agg hn ih
  | tuple hn _ ih => exact .tuple hn ih
  | func hn _ hk _ ih jh => exact .func hn ih hk jh
theorem lit2_of_lit1 {v : Value} (h : lit1 v = true) : lit2 v = true := by
  cases v <;> simp_all [lit2, lit1, lit0]
theorem lit1_of_lit0 {v : Value} (h : lit0 v = true) : lit1 v = true := by
  cases v <;> simp_all [lit1, lit0]
theorem VR.eq_of_lit0 {ρ : Ren} {v v' : Value} (h : VR ρ v v') (hl : lit0 v = true) : v' = v := by
  cases h with
  | lit _ => rfl
  | junk => simp [Am.junk, lit0] at hl
  | ptr _ => simp [lit0] at hl
  | slice _ _ => simp [lit0] at hl
  | agg _ _ => simp [lit0] at hl
  | tuple _ _ => simp [lit0] at hl
  | func hn _ hk _ =>
    simp only [lit0, Bool.and_eq_true, List.isEmpty_iff] at hl
    obtain ⟨rfl, rfl⟩ := hl
    rw [List.eq_nil_of_length_eq_zero hn.symm, List.eq_nil_of_length_eq_zero hk.symm]
theorem VR.eq_func {ρ : Ren} {fn : Fn} {a a' b b' : List Value} (hn : a.length = a'.length) (hk : b.length = b'.length) (hl : lit0 (.func fn ⟨a⟩ ⟨b⟩) = true) : Value.func fn ⟨a'⟩ ⟨b'⟩ = .func fn ⟨a⟩ ⟨b⟩ := by
  simp only [lit0, Bool.and_eq_true, List.isEmpty_iff] at hl
  obtain ⟨rfl, rfl⟩ := hl
  rw [List.eq_nil_of_length_eq_zero hn.symm, List.eq_nil_of_length_eq_zero hk.symm]
theorem list_eq_of_vr {ρ : Ren} {l l' : List Value} (hn : l.length = l'.length) (h : ∀ (i : Nat) (x y : Value), l[i]? = some x → l'[i]? = some y → VR ρ x y)
    {p : Value → Bool} (hp : ∀ x y, p x = true → VR ρ x y → y = x) (hl : l.all p = true) : l' = l := by
  apply List.ext_getElem?
  intro i
  by_cases hi : i < l.length
  · have h1 : l[i]? = some l[i] := by simp [hi]
    have hi' : i < l'.length := by omega
    have h2 : l'[i]? = some l'[i] := by simp [hi']
    rw [h1, h2, hp _ _ (by simpa using (List.all_eq_true.1 hl) l[i] (by simp)) (h i _ _ h1 h2)]
  · rw [List.getElem?_eq_none (by omega), List.getElem?_eq_none (by omega)]
theorem VR.eq_of_lit1 {ρ : Ren} {v v' : Value} (h : VR ρ v v') (hl : lit1 v = true) : v' = v := by
  cases h with
  | lit _ => rfl
  | junk => simp [Am.junk, lit1, lit0] at hl
  | ptr _ => simp [lit1, lit0] at hl
  | slice _ _ => simp [lit1, lit0] at hl
  | agg hn hx =>
    simp only [lit1] at hl
    rw [list_eq_of_vr hn hx (fun x y hx hv => hv.eq_of_lit0 hx) hl]
  | tuple _ _ => simp [lit1, lit0] at hl
  | func hn _ hk _ => exact VR.eq_func (ρ := ρ) hn hk hl
theorem VR.eq_of_lit2 {ρ : Ren} {v v' : Value} (h : VR ρ v v') (hl : lit2 v = true) : v' = v := by
  cases h with
  | lit _ => rfl
  | junk => simp [Am.junk, lit2, lit1, lit0] at hl
  | ptr _ => simp [lit2, lit1, lit0] at hl
  | slice _ _ => simp [lit2, lit1, lit0] at hl
  | agg hn hx =>
    simp only [lit2, lit1] at hl
    rw [list_eq_of_vr hn hx (fun x y hx hv => hv.eq_of_lit0 hx) hl]
  | tuple hn hx =>
    simp only [lit2] at hl
    rw [list_eq_of_vr hn hx (fun x y hx hv => hv.eq_of_lit1 hx) hl]
  | func hn _ hk _ => exact VR.eq_func (ρ := ρ) hn hk hl
inductive Blk where
  | dead
  | row (ro : Bool) (elem : TypeId) (cs : List Value)
  | tab (elem : TypeId) (cs : List Value)
abbrev Mem := List Blk
def Blk.cells? : Blk → Option (Bool × TypeId × List Value)
  | .dead => none
  | .row ro e cs => some (ro, e, cs)
  | .tab e cs => some (true, e, cs)
def look (m : Mem) (k : Nat) : Option (Bool × TypeId × List Value) := match m[k]? with
  | some b => b.cells?
  | none => none
theorem look_row {m : Mem} {k : Nat} {ro : Bool} {e : TypeId} {cs : List Value} (h : m[k]? = some (.row ro e cs)) : look m k = some (ro, e, cs) := by simp [look, h, Blk.cells?]
theorem row_of_look {m : Mem} {k : Nat} {e : TypeId} {cs : List Value} (h : look m k = some (false, e, cs)) : m[k]? = some (.row false e cs) := by
  unfold look at h
  split at h
  · rename_i b hb
    cases b <;> simp [Blk.cells?] at h
    obtain ⟨rfl, rfl, rfl⟩ := h
    exact hb
  · cases h
def Loose (fr : Nat × Nat) (n : Nat) : Prop := ∀ i, i < n → ¬ (fr.1 ≤ i ∧ i < fr.2)
structure MR (P : Program) (ρ : Ren) (m : Mem) (w : World) : Prop where
  dom : ∀ k, m.length ≤ k → ρ k = none
  bnd : ∀ k x, ρ k = some x → x.r < w.heap.size
  glob : ∀ g, g < P.globals.size → ∃ x, ρ g = some x ∧ x.r = g
  row : ∀ k ro e cs, look m k = some (ro, e, cs) → ∃ x c fr, ρ k = some x ∧ w.heap[x.r]? = some (.cells c e fr) ∧ c.size = x.n ∧ cs.length ≤ c.size ∧
    (∀ (i : Nat) (u : Value), cs[i]? = some u → ∃ v, c[i]? = some v ∧ VR ρ u v) ∧ (ro = false → Loose fr c.size) ∧ ((P.info? e).map (·.size) = some x.s)
  inj : ∀ k e cs k' ro' e' cs' x x', m[k]? = some (.row false e cs) → look m k' = some (ro', e', cs') → ρ k = some x → ρ k' = some x' → x.r = x'.r → k = k'
  tab : ∀ (k : Nat) (e : TypeId) (cs : List Value), m[k]? = some (Blk.tab e cs) → ∀ v ∈ cs, lit0 v = true
structure Ext (ρ : Ren) (m : Mem) (w : World) (ρ' : Ren) (m' : Mem) (w' : World) : Prop where
  le : ρ.le ρ'
  same : ∀ k, k < m.length → ρ' k = ρ k
  len : m.length ≤ m'.length
  fresh : ∀ k x, m.length ≤ k → ρ' k = some x → w.heap.size ≤ x.r ∨ ∃ k0 e0 cs0 x0, m[k0]? = some (.row false e0 cs0) ∧ ρ k0 = some x0 ∧ x0.r = x.r
  os : w'.os = w.os
  tape : w'.tape = w.tape
  output : w'.output = w.output
  size : w.heap.size ≤ w'.heap.size
  kept : ∀ r, r < w.heap.size → (∀ k e cs x, m[k]? = some (.row false e cs) → ρ k = some x → x.r ≠ r) → w'.heap[r]? = w.heap[r]?
  own : ∀ k e cs x, m'[k]? = some (.row false e cs) → ρ' k = some x → w.heap.size ≤ x.r ∨ ∃ k0 e0 cs0 x0, m[k0]? = some (.row false e0 cs0) ∧ ρ k0 = some x0 ∧ x0.r = x.r
theorem Ext.refl' {ρ : Ren} {m : Mem} (w : World) (hd : ∀ k, m.length ≤ k → ρ k = none) : Ext ρ m w ρ m w :=
  ⟨Ren.le_refl _, fun _ _ => rfl, Nat.le_refl _, fun k x hk hx => by (rw [hd k hk] at hx; cases hx), rfl, rfl, rfl, Nat.le_refl _, fun _ _ _ => rfl, fun k e cs x h hx => .inr ⟨k, e, cs, x, h, hx, rfl⟩⟩
theorem Ext.trans {ρ ρ1 ρ2 : Ren} {m m1 m2 : Mem} {w w1 w2 : World} (h : Ext ρ m w ρ1 m1 w1) (k : Ext ρ1 m1 w1 ρ2 m2 w2) : Ext ρ m w ρ2 m2 w2 := by
  have hf : ∀ k2 x, m.length ≤ k2 → ρ2 k2 = some x → w.heap.size ≤ x.r ∨ ∃ k0 e0 cs0 x0, m[k0]? = some (.row false e0 cs0) ∧ ρ k0 = some x0 ∧ x0.r = x.r := by
    intro k2 x hk hx
    by_cases h2 : k2 < m1.length
    · rw [k.same k2 h2] at hx
      exact h.fresh k2 x hk hx
    · rcases k.fresh k2 x (by omega) hx with h1 | ⟨k1, e1, cs1, x1, hm1, hx1, he1⟩
      · left; exact Nat.le_trans h.size h1
      · rcases h.own k1 e1 cs1 x1 hm1 hx1 with h3 | ⟨k0, e0, cs0, x0, hm0, hx0, he0⟩
        · left; omega
        · right; exact ⟨k0, e0, cs0, x0, hm0, hx0, by omega⟩
  refine ⟨Ren.le_trans h.le k.le, fun k2 h2 => by rw [k.same k2 (Nat.lt_of_lt_of_le h2 h.len), h.same k2 h2], Nat.le_trans h.len k.len, hf, k.os.trans h.os, k.tape.trans h.tape, k.output.trans h.output, Nat.le_trans h.size k.size, ?_, ?_⟩
  · intro r hr hno
    rw [k.kept r (Nat.lt_of_lt_of_le hr h.size) ?_]
    · exact h.kept r hr hno
    · intro k1 e cs x hm hx e1
      rcases h.own k1 e cs x hm hx with h1 | ⟨k0, e0, cs0, x0, hm0, hx0, he⟩
      · omega
      · exact hno k0 e0 cs0 x0 hm0 hx0 (by omega)
  · intro k2 e cs x hm hx
    rcases k.own k2 e cs x hm hx with h1 | ⟨k1, e1, cs1, x1, hm1, hx1, he1⟩
    · left; exact Nat.le_trans h.size h1
    · rcases h.own k1 e1 cs1 x1 hm1 hx1 with h2 | ⟨k0, e0, cs0, x0, hm0, hx0, he0⟩
      · left; omega
      · right; exact ⟨k0, e0, cs0, x0, hm0, hx0, by omega⟩
theorem MR.drawn {P : Program} {ρ : Ren} {m : Mem} {w : World} (h : MR P ρ m w) (n : Nat) : MR P ρ m { w with drawn := n } := ⟨h.dom, h.bnd, h.glob, h.row, h.inj, h.tab⟩
theorem Ext.drawn {ρ : Ren} {m : Mem} {w : World} {ρ' : Ren} {m' : Mem} {w' : World} (h : Ext ρ m w ρ' m' w') (n : Nat) : Ext ρ m w ρ' m' { w' with drawn := n } :=
  ⟨h.le, h.same, h.len, h.fresh, h.os, h.tape, h.output, h.size, h.kept, h.own⟩
def Ren.put (ρ : Ren) (k : Nat) (x : At) : Ren := fun b => if b = k then some x else ρ b
theorem Ren.le_put {ρ : Ren} {k : Nat} {x : At} (h : ρ k = none) : ρ.le (ρ.put k x) := by
  intro b y hb
  unfold Ren.put
  split
  · subst_vars; rw [h] at hb; cases hb
  · exact hb
theorem MR.alloc {P : Program} {ρ : Ren} {m : Mem} {w : World} (h : MR P ρ m w) {e : TypeId} {cs : List Value} {c : Array Value} {s : Nat} {ro : Bool}
    (fr : Nat × Nat) (hfr : ro = false → Loose fr c.size) (hs : (P.info? e).map (·.size) = some s) (hlen : cs.length ≤ c.size)
    (hc : ∀ (i : Nat) (u : Value), cs[i]? = some u → ∃ v, c[i]? = some v ∧ VR ρ u v) :
    MR P (ρ.put m.length ⟨w.heap.size, c.size, s⟩) (m ++ [.row ro e cs]) (w.alloc (.cells c e fr)) ∧
    Ext ρ m w (ρ.put m.length ⟨w.heap.size, c.size, s⟩) (m ++ [.row ro e cs]) (w.alloc (.cells c e fr)) := by
  have hle : ρ.le (ρ.put m.length ⟨w.heap.size, c.size, s⟩) := Ren.le_put (h.dom _ (Nat.le_refl _))
  have hnew : (w.alloc (.cells c e fr)).heap[w.heap.size]? = some (.cells c e fr) := heap_alloc_new _ _
  have hold' : ∀ i, i < w.heap.size → (w.alloc (.cells c e fr)).heap[i]? = w.heap[i]? := fun i hi => Go.RowKit.Below.heap_alloc _ _ _ hi
  have hcase : ∀ k b, (m ++ [Blk.row ro e cs])[k]? = some b → (k < m.length ∧ m[k]? = some b) ∨ (k = m.length ∧ b = .row ro e cs) := by
    intro k b hb
    rcases Nat.lt_trichotomy k m.length with hk | hk | hk
    · left; rw [List.getElem?_append_left hk] at hb; exact ⟨hk, hb⟩
    · right; subst hk; simp at hb; exact ⟨rfl, hb.symm⟩
    · rw [List.getElem?_append_right (by omega), List.getElem?_eq_none (by simp; omega)] at hb; cases hb
  have hlook : ∀ k t, look (m ++ [Blk.row ro e cs]) k = some t → (k < m.length ∧ look m k = some t) ∨ (k = m.length ∧ t = (ro, e, cs)) := by
    intro k t ht
    unfold look at ht
    split at ht
    · rename_i b hb
      rcases hcase k b hb with ⟨hk, hb⟩ | ⟨hk, rfl⟩
      · left; exact ⟨hk, by simp [look, hb, ht]⟩
      · right; simp [Blk.cells?] at ht; exact ⟨hk, ht.symm⟩
    · cases ht
  have hput : ∀ k, k < m.length → (ρ.put m.length ⟨w.heap.size, c.size, s⟩) k = ρ k := by
    intro k hk; unfold Ren.put; rw [if_neg (by omega)]
  have hputn : (ρ.put m.length ⟨w.heap.size, c.size, s⟩) m.length = some ⟨w.heap.size, c.size, s⟩ := by simp [Ren.put]
  refine ⟨⟨?_, ?_, fun g hg => (h.glob g hg).imp fun x hx => ⟨hle _ _ hx.1, hx.2⟩, ?_, ?_, ?_⟩, ⟨hle, hput, by simp, fun k x hk hx => by (unfold Ren.put at hx; split at hx; (cases hx; left; exact Nat.le_refl _); (rw [h.dom k hk] at hx; cases hx)), rfl, rfl, rfl, by show w.heap.size ≤ (w.heap.push _).size; simp, fun r hr _ => hold' r hr, ?_⟩⟩
  · intro k hk
    simp at hk
    unfold Ren.put
    rw [if_neg (by omega)]
    exact h.dom k (by omega)
  · intro k x hx
    have hsz : (w.alloc (.cells c e fr)).heap.size = w.heap.size + 1 := by show (w.heap.push _).size = _; simp
    unfold Ren.put at hx
    split at hx
    · cases hx; simp only [hsz]; omega
    · have := h.bnd _ _ hx; omega
  · intro k ro' e' cs' hb
    rcases hlook k _ hb with ⟨hk, hb⟩ | ⟨rfl, hb2⟩
    · obtain ⟨x, c', fr', hx, hw, hn, hl, hi, hf, hz⟩ := h.row k ro' e' cs' hb
      refine ⟨x, c', fr', hle _ _ hx, ?_, hn, hl, fun i u hu => ?_, hf, hz⟩
      · rw [hold' _ (h.bnd _ _ hx)]; exact hw
      · obtain ⟨v, hv, hr⟩ := hi i u hu
        exact ⟨v, hv, hr.mono hle⟩
    · cases hb2
      exact ⟨_, c, fr, hputn, hnew, rfl, hlen, fun i u hu => by obtain ⟨v, hv, hr⟩ := hc i u hu; exact ⟨v, hv, hr.mono hle⟩, hfr, hs⟩
  · intro k e1 cs1 k' ro' e' cs' x x' hb hb' hx hx' hr
    rcases hcase k _ hb with ⟨hk, hb⟩ | ⟨rfl, hb⟩
    · rcases hlook k' _ hb' with ⟨hk', hb'⟩ | ⟨rfl, hb'⟩
      · rw [hput k hk] at hx
        rw [hput k' hk'] at hx'
        exact h.inj k e1 cs1 k' ro' e' cs' x x' hb hb' hx hx' hr
      · rw [hput k hk] at hx
        rw [hputn] at hx'
        cases hx'
        have := h.bnd _ _ hx
        simp at hr; omega
    · rcases hlook k' _ hb' with ⟨hk', hb'⟩ | ⟨rfl, hb'⟩
      · rw [hput k' hk'] at hx'
        rw [hputn] at hx
        cases hx
        have := h.bnd _ _ hx'
        simp at hr; omega
      · rfl
  · intro k e1 cs1 hb
    rcases hcase k _ hb with ⟨hk, hb⟩ | ⟨_, hb⟩
    · exact h.tab k e1 cs1 hb
    · cases hb
  · intro k e1 cs1 x hb hx
    rcases hcase k _ hb with ⟨hk, hb⟩ | ⟨rfl, hb⟩
    · rw [hput k hk] at hx
      right; exact ⟨k, e1, cs1, x, hb, hx, rfl⟩
    · rw [hputn] at hx
      cases hx
      left; exact Nat.le_refl _
end Go.Am
namespace Go.Am
noncomputable section
noncomputable def nth (T : List Value) : Nat → Value :=
  @List.rec Value (fun _ => Nat → Value) (fun _ => undef) (fun v _ ih t => @Nat.rec (fun _ => Value) v (fun k _ => ih k) t) T
theorem nth_eq : ∀ (T : List Value) (t : Nat), nth T t = T.getD t undef
  | [], _ => rfl
  | _ :: _, 0 => rfl
  | _ :: T, t + 1 => nth_eq T t
noncomputable def setAt (T : List Value) (v : Value) : Nat → List Value :=
  @List.rec Value (fun _ => Nat → List Value) (fun _ => []) (fun a l ih t => @Nat.rec (fun _ => List Value) (v :: l) (fun k _ => a :: ih k) t) T
theorem setAt_eq : ∀ (T : List Value) (v : Value) (t : Nat), setAt T v t = T.set t v
  | [], _, _ => rfl
  | _ :: _, _, 0 => rfl
  | a :: T, v, t + 1 => congrArg (a :: ·) (setAt_eq T v t)
def ev (T : List Value) : Operand → Value
  | .tmp t => nth T t
  | .const v => v
  | .global g => .pointer (some ⟨g, 0, none⟩)
  | .func f => .func (.func f) #[] #[]
structure TR (ρ : Ren) (T : List Value) (t : Array Value) : Prop where
  size : T.length = t.size
  at_ : ∀ (i : Nat) (x y : Value), T[i]? = some x → t[i]? = some y → VR ρ x y
theorem TR.mono {ρ ρ' : Ren} (hl : ρ.le ρ') {T : List Value} {t : Array Value} (h : TR ρ T t) : TR ρ' T t :=
  ⟨h.size, fun i x y hx hy => (h.at_ i x y hx hy).mono hl⟩
theorem vr_undef (ρ : Ren) : VR ρ undef undef := .lit rfl
theorem TR.set {ρ : Ren} {T : List Value} {t : Array Value} (h : TR ρ T t) (d : Nat) {v v' : Value} (hv : VR ρ v v') : TR ρ (T.set d v) (t.setIfInBounds d v') := by
  refine ⟨by simp [h.size], fun i x y hx hy => ?_⟩
  rw [List.getElem?_set] at hx
  rw [Array.getElem?_setIfInBounds] at hy
  by_cases hd : d = i
  · subst hd
    simp only [if_true] at hx hy
    split at hx
    · split at hy
      · cases hx; cases hy; exact hv
      · cases hy
    · cases hx
  · simp only [hd, if_false] at hx hy
    exact h.at_ i x y hx hy
def okOperand (P : Program) : Operand → Bool
  | .const v => lit2 v
  | .global g => decide (g < P.globals.size)
  | _ => true
theorem ev_vr {P : Program} {ρ : Ren} {m : Mem} {w : World} {T : List Value} {a : Act} (hm : MR P ρ m w) (ht : TR ρ T a.tmps) (x : Operand) (hx : okOperand P x = true) :
    VR ρ (ev T x) (a.eval x) := by
  cases x with
  | tmp t =>
    simp only [ev, nth_eq, Act.eval]
    by_cases h : t < T.length
    · have h' : t < a.tmps.size := by rw [← ht.size]; exact h
      have h1 : T[t]? = some T[t] := by simp [h]
      have h2 : a.tmps[t]? = some a.tmps[t] := by simp [h']
      have := ht.at_ t _ _ h1 h2
      simpa [List.getD, h1, Array.getD, h'] using this
    · have h' : ¬ t < a.tmps.size := by rw [← ht.size]; exact h
      rw [show T.getD t undef = undef by simp [List.getD, List.getElem?_eq_none (Nat.le_of_not_lt h)]]
      simp only [Array.getD, h', dite_false]
      exact vr_undef ρ
  | const v => exact .lit hx
  | global g =>
    obtain ⟨x, h1, h2⟩ := hm.glob g (by simpa [okOperand] using hx)
    simp only [ev, nth_eq, Act.eval]
    rw [show (⟨g, 0, none⟩ : Addr) = ⟨x.r, 0, none⟩ by rw [h2]]
    have := VR.ptr (ρ := ρ) (o := 0) h1
    rw [h2] at this ⊢
    exact this
  | func f => exact .lit rfl
def pv {α : Type} (P : Program) : Sem α → Option α
  | .pure a => some a
  | .program k => pv P (k P)
  | _ => none
theorem pv_run {α : Type} {P : Program} {s : Sem α} {x : α} (h : pv P s = some x) (w : World) : s.run P w = .ok x w := by
  induction s with
  | pure a => simp only [pv, Option.some.injEq] at h; subst h; rfl
  | program k ih => simp only [pv] at h; simp only [Sem.run]; exact ih P h
  | _ => simp [pv] at h
def cellOk : Value → Bool
  | .agg _ => false
  | .tuple _ => false
  | .chan (some _) => false
  | _ => true
def vcells : Value → Option (List Value)
  | .agg cs => if cs.toList.all cellOk then some cs.toList else none
  | .tuple _ => none
  | .chan (some _) => none
  | v => some [v]
theorem oneCell_of_vr {ρ : Ren} {x y : Value} (h : VR ρ x y) (hc : cellOk x = true) : y.oneCell' = true := by
  cases h with
  | lit _ => cases x <;> simp_all [cellOk, Value.oneCell']
  | junk => simp [junk, cellOk] at hc
  | ptr _ => rfl
  | slice _ _ => rfl
  | agg _ _ => simp [cellOk] at hc
  | tuple _ _ => simp [cellOk] at hc
  | func _ _ _ _ => rfl
theorem vcells_vr {ρ : Ren} {v v' : Value} (h : VR ρ v v') {l : List Value} (hl : vcells v = some l) :
    l.length = v'.cells.size ∧ (∀ (i : Nat) (x y : Value), l[i]? = some x → v'.cells[i]? = some y → VR ρ x y) ∧ (∀ y ∈ v'.cells.toList, y.oneCell' = true) := by
  cases h with
  | lit hlit =>
    cases v <;> simp only [vcells] at hl
    case agg cs =>
      split at hl
      · rename_i hall
        cases hl
        refine ⟨by simp [Value.cells], fun i x y hx hy => ?_, fun y hy => ?_⟩
        · simp only [Value.cells] at hy
          have : x = y := by
            have : cs.toList[i]? = cs[i]? := by simp
            rw [this, hy] at hx
            exact (Option.some.inj hx).symm
          subst this
          simp only [lit2, lit1] at hlit
          exact .lit (lit2_of_lit1 (lit1_of_lit0 ((List.all_eq_true.1 hlit) x (List.mem_of_getElem? hx))))
        · simp only [Value.cells] at hy
          have := (List.all_eq_true.1 hall) y hy
          cases y <;> simp_all [cellOk, Value.oneCell']
      · cases hl
    case tuple => cases hl
    case chan r =>
      cases r <;> simp at hl
      subst hl
      exact ⟨rfl, fun i x y hx hy => by cases i <;> simp [Value.cells] at hx hy; subst hx; subst hy; exact .lit hlit, fun y hy => by simp [Value.cells] at hy; subst hy; rfl⟩
    all_goals (simp only [Option.some.injEq] at hl; subst hl; exact ⟨rfl, fun i x y hx hy => by cases i <;> simp [Value.cells] at hx hy; subst hx; subst hy; exact .lit hlit, fun y hy => by simp [Value.cells] at hy; subst hy; rfl⟩)
  | junk => simp [junk, vcells] at hl
  | ptr h => simp only [vcells, Option.some.injEq] at hl; subst hl; exact ⟨rfl, fun i x y hx hy => by cases i <;> simp [Value.cells] at hx hy; subst hx; subst hy; exact .ptr h, fun y hy => by simp [Value.cells] at hy; subst hy; rfl⟩
  | slice h hc => simp only [vcells, Option.some.injEq] at hl; subst hl; exact ⟨rfl, fun i x y hx hy => by cases i <;> simp [Value.cells] at hx hy; subst hx; subst hy; exact .slice h hc, fun y hy => by simp [Value.cells] at hy; subst hy; rfl⟩
  | func hn h hk k => simp only [vcells, Option.some.injEq] at hl; subst hl; exact ⟨rfl, fun i x y hx hy => by cases i <;> simp [Value.cells] at hx hy; subst hx; subst hy; exact .func hn h hk k, fun y hy => by simp [Value.cells] at hy; subst hy; rfl⟩
  | agg hn hx =>
    rename_i l0 l1
    simp only [vcells] at hl
    split at hl
    · rename_i hall
      cases hl
      refine ⟨by simpa [Value.cells] using hn, fun i x y h1 h2 => hx i x y h1 (by simpa [Value.cells] using h2), fun y hy => ?_⟩
      simp only [Value.cells] at hy
      obtain ⟨i, hi⟩ := List.mem_iff_getElem?.1 hy
      have hlt : i < l.length := by rw [hn]; exact (List.getElem?_eq_some_iff.1 hi).1
      have h1 : l[i]? = some l[i] := by simp [hlt]
      exact oneCell_of_vr (hx i _ _ h1 hi) ((List.all_eq_true.1 hall) _ (List.mem_of_getElem? h1))
    · cases hl
  | tuple _ _ => simp [vcells] at hl
end
end Go.Am
namespace Go.Am
noncomputable section
theorem add_plain (b o n : Nat) : Addr.add ⟨b, o, none⟩ n = ⟨b, o + n, none⟩ := by
  unfold Addr.add
  split
  · subst_vars; rfl
  · rfl
theorem run_typeInfo' {P : Program} {t : TypeId} {i : TypeInfo} (h : P.info? t = some i) (w : World) : (typeInfo t).run P w = .ok i w := by
  simp [typeInfo, h]
theorem run_sizeOf' {P : Program} {t : TypeId} {i : TypeInfo} (h : P.info? t = some i) (w : World) : (sizeOf t).run P w = .ok i.size w := by
  simp [sizeOf, run_typeInfo' h]
def aggD : TypeDesc → Bool
  | .struct _ => true
  | .array _ _ => true
  | _ => false
theorem run_isAgg' {P : Program} {t : TypeId} {d : TypeDesc} (h : P.underlying t = some d) (w : World) : (isAgg t).run P w = .ok (aggD d) w := by
  simp only [isAgg, Sem.run_bind, run_underlying h, Result.andThen_ok]
  cases d <;> rfl
def aload (P : Program) (t : TypeId) (v : Value) (m : Mem) : Option Value :=
  match v with
  | .pointer (some ⟨b, o, none⟩) =>
    match look m b with
    | some (_, _, cs) =>
      match P.underlying t with
      | some d =>
        match aggD d with
        | true => match P.info? t with
          | some i => if o + i.size ≤ cs.length then some (.agg ((cs.drop o).take i.size).toArray) else none
          | none => none
        | false => cs[o]?
      | none => none
    | _ => none
  | _ => none
theorem vr_ptr_inv {ρ : Ren} {b o : Nat} {v' : Value} (h : VR ρ (.pointer (some ⟨b, o, none⟩)) v') : ∃ x, ρ b = some x ∧ v' = .pointer (some ⟨x.r, o, none⟩) := by
  cases h with
  | lit h => simp [lit2, lit1, lit0] at h
  | ptr h => exact ⟨_, h, rfl⟩
theorem aload_sound {P : Program} {ρ : Ren} {m : Mem} {w : World} (hm : MR P ρ m w) {t : TypeId} {v v' u : Value} (hv : VR ρ v v') (h : aload P t v m = some u) :
    ∃ u', (Instr.loadAt t v').run P w = .ok u' w ∧ VR ρ u u' := by
  unfold aload at h
  split at h
  · rename_i b o
    split at h
    · rename_i ro e cs hb
      split at h
      · rename_i d hd
        obtain ⟨x, hx, rfl⟩ := vr_ptr_inv hv
        obtain ⟨x', c, fr, hx', hw, hn, hl, hi, _, _⟩ := hm.row b ro e cs hb
        rw [hx] at hx'; cases hx'
        have hcell : ∀ (i : Nat) (y : Value), c[i]? = some y → w.cell? ⟨x.r, i, none⟩ = some y := by
          intro i y hy; rw [cell_of_row w x.r i c e fr hw]; exact hy
        split at h
        · rename_i hagg
          split at h
          · rename_i i hinfo
            split at h
            · rename_i hle
              cases h
              refine ⟨.agg ((c.toList.drop o).take i.size).toArray, ?_, ?_⟩
              · simp only [Instr.loadAt, Instr.sureAddr, loadVar, Sem.run_bind, Sem.run_pure, Result.andThen_ok, run_isAgg' hd, hagg, if_true, run_sizeOf' hinfo]
                have hlen : ((c.toList.drop o).take i.size).length = i.size := by simp; omega
                have := run_loadCells_list (P := P) w ⟨x.r, o, none⟩ ((c.toList.drop o).take i.size) (fun j y hy => by
                  rw [add_plain]
                  apply hcell
                  rw [List.getElem?_take] at hy
                  split at hy
                  · rw [List.getElem?_drop] at hy; simpa using hy
                  · cases hy)
                rw [hlen] at this
                rw [this]
                rfl
              · refine VR.agg (by simp; omega) fun j y y' hy hy' => ?_
                rw [List.getElem?_take] at hy hy'
                split at hy
                · rename_i hj
                  rw [List.getElem?_drop] at hy
                  simp only [hj, if_true] at hy'
                  rw [List.getElem?_drop] at hy'
                  obtain ⟨z, hz, hr⟩ := hi _ _ hy
                  have : c.toList[o + j]? = c[o + j]? := by simp
                  rw [this, hz] at hy'
                  cases hy'
                  exact hr
                · cases hy
            · cases h
          · cases h
        · rename_i hagg
          obtain ⟨z, hz, hr⟩ := hi _ _ h
          refine ⟨z, ?_, hr⟩
          simp [Instr.loadAt, Instr.sureAddr, loadVar, run_isAgg' hd, hagg, hcell _ _ hz]
      · cases h
    · cases h
  · cases h
structure Upd (w w' : World) (g : Nat) (o : Obj) : Prop where
  os : w'.os = w.os
  tape : w'.tape = w.tape
  output : w'.output = w.output
  size : w'.heap.size = w.heap.size
  same : w'.heap[g]? = some o
  other : ∀ r, r ≠ g → w'.heap[r]? = w.heap[r]?
theorem Upd.trans {w w1 w2 : World} {g : Nat} {o o' : Obj} (h : Upd w w1 g o) (k : Upd w1 w2 g o') : Upd w w2 g o' :=
  ⟨k.os.trans h.os, k.tape.trans h.tape, k.output.trans h.output, k.size.trans h.size, k.same, fun r hr => (k.other r hr).trans (h.other r hr)⟩
theorem Upd.refl {w : World} {g : Nat} {o : Obj} (h : w.heap[g]? = some o) : Upd w w g o := ⟨rfl, rfl, rfl, rfl, h, fun _ _ => rfl⟩
theorem upd_setCell {w : World} {g i : Nat} {c : Array Value} {e : TypeId} {fr : Nat × Nat} (v : Value) (h : w.heap[g]? = some (.cells c e fr)) :
    Upd w (w.setCell ⟨g, i, none⟩ v) g (.cells (c.setIfInBounds i v) e fr) := by
  refine ⟨rfl, rfl, rfl, by simp [World.setCell], ?_, fun r hr => Go.RowKit.Below.heap_setCell w ⟨g, i, none⟩ v r hr⟩
  simp [World.setCell, Array.getElem?_modify, h]
theorem run_storeCells_loose {P : Program} {g o : Nat} {e : TypeId} {fr : Nat × Nat} : ∀ (vs : List Value) (i : Nat) (c : Array Value) (w : World),
    w.heap[g]? = some (.cells c e fr) → Loose fr c.size → o + i + vs.length ≤ c.size → (∀ v ∈ vs, v.oneCell' = true) →
    ∃ (w' : World) (c' : Array Value), (storeCells ⟨g, o, none⟩ vs i).run P w = .ok () w' ∧ Upd w w' g (.cells c' e fr) ∧ c'.size = c.size ∧
      ∀ j : Nat, c'[j]? = if o + i ≤ j ∧ j < o + i + vs.length then vs[j - (o + i)]? else c[j]?
  | [], i, c, w, hw, _, _, _ => ⟨w, c, rfl, Upd.refl hw, rfl, fun j => by rw [if_neg (by simp only [List.length_nil]; omega)]⟩
  | v :: vs, i, c, w, hw, hfr, hle, h1 => by
    simp only [List.length_cons] at hle
    have hcell : w.cell? ⟨g, o + i, none⟩ = some c[o + i] := by
      rw [cell_of_row w g (o + i) c e fr hw]; simp
    have hz : w.frozen? ⟨g, o + i, none⟩ = false := by
      have := hfr (o + i) (by omega)
      simp only [World.frozen?, hw]
      simpa using this
    have hs : (store (Addr.add ⟨g, o, none⟩ i) v).run P w = .ok () (w.setCell ⟨g, o + i, none⟩ v) := by
      rw [add_plain, run_store P w _ v .plain (h1 v (by simp)), hcell]
      simp [hz]
    have hu := upd_setCell (i := o + i) v hw
    obtain ⟨w', c', hr, hu', hsz, hj⟩ := run_storeCells_loose (P := P) (o := o) vs (i + 1) (c.setIfInBounds (o + i) v) _ hu.same (by simpa using hfr) (by simp; omega) (fun u hu => h1 u (by simp [hu]))
    refine ⟨w', c', ?_, hu.trans hu', by simpa using hsz, fun j => ?_⟩
    · simp only [storeCells, Sem.run_bind, hs, Result.andThen_ok]
      exact hr
    · rw [hj j, Array.getElem?_setIfInBounds]
      by_cases h0 : j = o + i
      · subst h0
        rw [if_neg (by omega), if_pos rfl, if_pos (by omega), if_pos (by simp)]; simp
      · by_cases h2 : o + (i + 1) ≤ j ∧ j < o + (i + 1) + vs.length
        · rw [if_pos h2, if_pos (by simp only [List.length_cons]; omega)]
          have : j - (o + i) = (j - (o + (i + 1))) + 1 := by omega
          rw [this, List.getElem?_cons_succ]
        · rw [if_neg h2, if_neg (fun e => h0 e.symm), if_neg (by simp only [List.length_cons]; omega)]
def lay (cs : List Value) (o : Nat) (l : List Value) : List Value := match l with
  | [v] => cs.set o v
  | l => cs.take o ++ (l ++ cs.drop (o + l.length))
theorem lay_length {cs : List Value} {o : Nat} {l : List Value} (h : o + l.length ≤ cs.length) : (lay cs o l).length = cs.length := by
  unfold lay
  split
  · simp
  · simp; omega
theorem lay_get {cs : List Value} {o : Nat} {l : List Value} (h : o + l.length ≤ cs.length) (j : Nat) :
    (lay cs o l)[j]? = if o ≤ j ∧ j < o + l.length then l[j - o]? else cs[j]? := by
  unfold lay
  split
  · rename_i v
    simp only [List.length_cons, List.length_nil, Nat.zero_add] at h ⊢
    rw [List.getElem?_set]
    by_cases hj : o = j
    · subst hj
      rw [if_pos rfl, if_pos (by omega), if_pos (by omega), Nat.sub_self]; rfl
    · rw [if_neg hj, if_neg (by omega)]
  · by_cases h1 : j < o
    · rw [List.getElem?_append_left (by simp; omega), if_neg (by omega), List.getElem?_take, if_pos h1]
    · rw [List.getElem?_append_right (by simp; omega)]
      have e : (cs.take o).length = o := by simp; omega
      rw [e]
      by_cases h2 : j < o + l.length
      · rw [List.getElem?_append_left (by omega), if_pos ⟨by omega, h2⟩]
      · rw [List.getElem?_append_right (by omega), if_neg (by omega), List.getElem?_drop]
        congr 1; omega
theorem MR.update {P : Program} {ρ : Ren} {m : Mem} {w w' : World} (h : MR P ρ m w) {k : Nat} {e : TypeId} {cs cs' : List Value} {x : At} {c c' : Array Value} {fr : Nat × Nat}
    (hk : m[k]? = some (.row false e cs)) (hx : ρ k = some x) (hw : w.heap[x.r]? = some (.cells c e fr)) (hu : Upd w w' x.r (.cells c' e fr)) (hsz : c'.size = c.size)
    (hlen : cs'.length ≤ c'.size) (hc : ∀ (i : Nat) (u : Value), cs'[i]? = some u → ∃ v, c'[i]? = some v ∧ VR ρ u v) :
    MR P ρ (m.set k (.row false e cs')) w' ∧ Ext ρ m w ρ (m.set k (.row false e cs')) w' := by
  have hcase : ∀ j b, (m.set k (.row false e cs'))[j]? = some b → (j ≠ k ∧ m[j]? = some b) ∨ (j = k ∧ b = .row false e cs') := by
    intro j b hb
    rw [List.getElem?_set] at hb
    by_cases hj : k = j
    · subst hj
      simp only [if_true] at hb
      split at hb
      · right; exact ⟨rfl, (Option.some.inj hb).symm⟩
      · cases hb
    · simp only [hj, if_false] at hb
      left; exact ⟨fun e => hj e.symm, hb⟩
  have hlook : ∀ j q, look (m.set k (.row false e cs')) j = some q → (j ≠ k ∧ look m j = some q) ∨ (j = k ∧ q = (false, e, cs')) := by
    intro j q hq
    unfold look at hq
    split at hq
    · rename_i b hb
      rcases hcase j b hb with ⟨hj, hb⟩ | ⟨hj, rfl⟩
      · left; exact ⟨hj, by simp [look, hb, hq]⟩
      · right; simp [Blk.cells?] at hq; exact ⟨hj, hq.symm⟩
    · cases hq
  obtain ⟨x0, c0, fr0, hx0, hw0, hn0, hl0, hi0, hf0, hs0⟩ := h.row k false e cs (look_row hk)
  rw [hx] at hx0; cases hx0
  rw [hw] at hw0; cases hw0
  refine ⟨⟨fun j hj => h.dom j (by simpa using hj), fun j y hy => by rw [hu.size]; exact h.bnd j y hy, h.glob, ?_, ?_, ?_⟩, ⟨Ren.le_refl _, fun _ _ => rfl, by simp, fun j y hj hy => by (rw [h.dom j hj] at hy; cases hy), hu.os, hu.tape, hu.output, by rw [hu.size]; exact Nat.le_refl _, ?_, ?_⟩⟩
  · intro j ro' e' cs1 hb
    rcases hlook j _ hb with ⟨hj, hb'⟩ | ⟨rfl, hb'⟩
    · obtain ⟨y, c1, fr1, hy, hw1, hn1, hl1, hi1, hf1, hs1⟩ := h.row j ro' e' cs1 hb'
      have hne : y.r ≠ x.r := fun e1 => hj (h.inj k e cs j ro' e' cs1 x y hk hb' hx hy e1.symm).symm
      exact ⟨y, c1, fr1, hy, by rw [hu.other _ hne]; exact hw1, hn1, hl1, hi1, hf1, hs1⟩
    · cases hb'
      exact ⟨x, c', fr, hx, hu.same, by rw [hsz]; exact hn0, hlen, hc, fun hh => by rw [hsz]; exact hf0 hh, hs0⟩
  · intro j e1 cs1 j' ro' e' cs2 y y' hb hb' hy hy' hr
    have old : ∀ (j : Nat) (ro : Bool) (e1 : TypeId) (cs1 : List Value), look (m.set k (Blk.row false e cs')) j = some (ro, e1, cs1) → ∃ e2 cs2, look m j = some (ro, e2, cs2) := by
      intro j ro e1 cs1 hb
      rcases hlook j _ hb with ⟨_, hb1⟩ | ⟨rfl, hb1⟩
      · exact ⟨e1, cs1, hb1⟩
      · cases hb1; exact ⟨e, cs, look_row hk⟩
    obtain ⟨e2, cs3, h2'⟩ := old _ _ _ _ (look_row hb)
    have h2 := row_of_look h2'
    obtain ⟨e3, cs4, h3⟩ := old _ _ _ _ hb'
    exact h.inj j e2 cs3 j' ro' e3 cs4 y y' h2 h3 hy hy' hr
  · intro j e1 cs1 hb
    rcases hcase j _ hb with ⟨_, hb1⟩ | ⟨_, hb1⟩
    · exact h.tab j e1 cs1 hb1
    · cases hb1
  · intro r hr hno
    exact hu.other r fun e1 => hno k e cs x hk hx e1.symm
  · intro j e1 cs1 y hb hy
    rcases hcase j _ hb with ⟨_, hb1⟩ | ⟨rfl, hb1⟩
    · right; exact ⟨j, e1, cs1, y, hb1, hy, rfl⟩
    · right; exact ⟨j, e, cs, y, hk, hy, rfl⟩
def astore (P : Program) (t : TypeId) (v u : Value) (m : Mem) : Option Mem :=
  match v with
  | .pointer (some ⟨b, o, none⟩) =>
    match m[b]? with
    | some (.row false e cs) =>
      match vcells u with
      | some l =>
        match P.info? t with
        | some i => if l.length = i.size ∧ o + l.length ≤ cs.length then some (m.set b (.row false e (lay cs o l))) else none
        | none => none
      | none => none
    | _ => none
  | _ => none
theorem astore_sound {P : Program} {ρ : Ren} {m m1 : Mem} {w : World} (hm : MR P ρ m w) {t : TypeId} {v v' u u' : Value} (hv : VR ρ v v') (hu : VR ρ u u') (h : astore P t v u m = some m1) :
    ∃ w1, (Instr.storeAt t v' u').run P w = .ok () w1 ∧ MR P ρ m1 w1 ∧ Ext ρ m w ρ m1 w1 := by
  unfold astore at h
  split at h
  · rename_i b o
    split at h
    · rename_i e cs hb
      split at h
      · rename_i l hl
        split at h
        · rename_i i hi
          split at h
          · rename_i hle
            cases h
            obtain ⟨x, hx, rfl⟩ := vr_ptr_inv hv
            obtain ⟨x', c, fr, hx', hw, hn, hlen, hcs, hf, hs⟩ := hm.row b false e cs (look_row hb)
            rw [hx] at hx'; cases hx'
            obtain ⟨hl1, hl2, hl3⟩ := vcells_vr hu hl
            obtain ⟨w', c', hr, hup, hsz, hj⟩ := run_storeCells_loose (P := P) (o := o) u'.cells.toList 0 c w hw (hf rfl) (by simp; omega) hl3
            refine ⟨w', ?_, ?_⟩
            · simp only [Instr.storeAt, Instr.sureAddr, storeVar, Sem.run_bind, Sem.run_pure, Result.andThen_ok, run_sizeOf' hi]
              rw [if_neg (by omega)]
              simpa using hr
            · refine hm.update hb hx hw hup hsz (by rw [lay_length hle.2]; omega) fun j y hy => ?_
              rw [lay_get hle.2] at hy
              rw [hj j]
              simp only [Nat.add_zero]
              split at hy
              · rename_i hj1
                rw [if_pos (by simp; omega)]
                have hlt : j - o < u'.cells.size := by omega
                refine ⟨u'.cells[j - o], by simp [hlt], hl2 _ _ _ hy (by simp [hlt])⟩
              · rename_i hj1
                rw [if_neg (by simp; omega)]
                exact hcs j y hy
          · cases h
        · cases h
      · cases h
    · cases h
  · cases h
end
end Go.Am
namespace Go.Am
noncomputable section
def aindexAddr (P : Program) (t : TypeId) (v ix : Value) : Option Value :=
  match ix with
  | .int _ i =>
    match P.underlying t, v with
    | some (.array len elem), .pointer (some ⟨b, o, none⟩) =>
      match P.info? elem with
      | some e => if 0 ≤ i ∧ i < (len : Int) then some (.pointer (some ⟨b, o + i.toNat * e.size, none⟩)) else none
      | none => none
    | some (.slice elem), .slice (some ⟨b, o, none⟩) len _ =>
      match P.info? elem with
      | some e => if 0 ≤ i ∧ i < (len : Int) then some (.pointer (some ⟨b, o + i.toNat * e.size, none⟩)) else none
      | none => none
    | _, _ => none
  | _ => none
theorem vr_int_inv {ρ : Ren} {k : IntKind} {n : Int} {v' : Value} (h : VR ρ (.int k n) v') : v' = .int k n := h.eq_of_lit2 rfl
theorem vr_slice_inv {ρ : Ren} {b o n c : Nat} {v' : Value} (h : VR ρ (.slice (some ⟨b, o, none⟩) n c) v') :
    ∃ x c', ρ b = some x ∧ v' = .slice (some ⟨x.r, o, none⟩) n c' ∧ (c' = c ∨ (c ≤ c' ∧ (x.s = 0 ∨ o + c' * x.s ≤ x.n))) := by
  cases h with
  | lit h => simp [lit2, lit1, lit0] at h
  | slice h hc => exact ⟨_, _, h, rfl, hc⟩
theorem aindexAddr_sound {P : Program} {ρ : Ren} {w : World} {t : TypeId} {v v' ix ix' u : Value} (hv : VR ρ v v') (hi : VR ρ ix ix') (h : aindexAddr P t v ix = some u) :
    ∃ u', (Instr.indexAt t v' ix').run P w = .ok u' w ∧ VR ρ u u' := by
  unfold aindexAddr at h
  split at h
  · rename_i k i
    have := vr_int_inv hi; subst this
    split at h
    · rename_i len elem b o hu
      split at h
      · rename_i e he
        split at h
        · rename_i hb
          cases h
          obtain ⟨x, hx, rfl⟩ := vr_ptr_inv hv
          refine ⟨_, ?_, .ptr hx⟩
          simp only [Instr.indexAt, asIntOf, Sem.run_bind, Sem.run_pure, Result.andThen_ok, run_underlying hu, Instr.sureAddr, hb, and_self, if_true, run_sizeOf' he, add_plain]
        · cases h
      · cases h
    · rename_i elem b o len c hu
      split at h
      · rename_i e he
        split at h
        · rename_i hb
          cases h
          obtain ⟨x, c', hx, rfl, _⟩ := vr_slice_inv hv
          refine ⟨_, ?_, .ptr hx⟩
          simp only [Instr.indexAt, asIntOf, Sem.run_bind, Sem.run_pure, Result.andThen_ok, run_underlying hu, hb, and_self, if_true, run_sizeOf' he, add_plain]
        · cases h
      · cases h
    · cases h
  · cases h
def afieldAddr (P : Program) (s : TypeId) (v : Value) (f : Nat) : Option Value :=
  match P.underlying s, v with
  | some (.struct fields), .pointer (some ⟨b, o, none⟩) =>
    match fields[f]? with
    | some fd =>
      match P.info? fd.type with
      | some i => if i.size = 0 then none else some (.pointer (some ⟨b, o + fd.offset, none⟩))
      | none => none
    | none => none
  | _, _ => none
theorem afieldAddr_sound {P : Program} {ρ : Ren} {w : World} {s : TypeId} {v v' u : Value} {f : Nat} (hv : VR ρ v v') (h : afieldAddr P s v f = some u) :
    ∃ u', (Instr.fieldAt s v' f).run P w = .ok u' w ∧ VR ρ u u' := by
  unfold afieldAddr at h
  split at h
  · rename_i fields b o hu
    split at h
    · rename_i fd hf
      split at h
      · rename_i i hi
        split at h
        · cases h
        · rename_i hz
          cases h
          obtain ⟨x, hx, rfl⟩ := vr_ptr_inv hv
          refine ⟨_, ?_, .ptr hx⟩
          simp only [Instr.fieldAt, Sem.run_bind, run_underlying hu, Result.andThen_ok, hf, Instr.sureAddr, Sem.run_pure, fieldPlace, run_sizeOf' hi, hz, if_false, add_plain]
      · cases h
    · cases h
  · cases h
def abound (v : Value) (y : Nat) : Option Nat :=
  match v with
  | .int _ i => if 0 ≤ i ∧ i ≤ (y : Int) then some i.toNat else none
  | _ => none
theorem abound_sound {P : Program} {ρ : Ren} {w : World} {v v' : Value} {y y' n : Nat} (hv : VR ρ v v') (hy : y ≤ y') (code : BoundsCode) (h : abound v y = some n) :
    (Instr.sliceBound v' y' code).run P w = .ok n w ∧ n ≤ y := by
  unfold abound at h
  split at h
  · rename_i k i
    split at h
    · rename_i hb
      cases h
      have := vr_int_inv hv; subst this
      refine ⟨?_, by omega⟩
      simp only [Instr.sliceBound, asIntOf, Sem.run_bind, Sem.run_pure, Result.andThen_ok]
      rw [if_pos (by omega)]
      rfl
    · cases h
  · cases h
def abounds (len cap : Nat) (lo hi : Option Value) : Option (Nat × Nat) :=
  match (match hi with | some v => abound v cap | none => some len) with
  | some h => match (match lo with | some v => abound v h | none => some 0) with
    | some l => some (l, h)
    | none => none
  | none => none
theorem abounds_sound {P : Program} {ρ : Ren} {w : World} {len cap cap' l h : Nat} {lo hi : Option Value} {lo' hi' : Option Value} (isS : Bool)
    (hlo : ∀ v, lo = some v → ∃ v', lo' = some v' ∧ VR ρ v v') (hlo0 : lo = none → lo' = none) (hhi : ∀ v, hi = some v → ∃ v', hi' = some v' ∧ VR ρ v v') (hhi0 : hi = none → hi' = none)
    (hc : cap ≤ cap') (hlc : len ≤ cap) (hr : abounds len cap lo hi = some (l, h)) :
    (Instr.sliceBounds isS len cap' lo' hi' none).run P w = .ok (l, h, cap') w ∧ l ≤ h ∧ h ≤ cap := by
  unfold abounds at hr
  split at hr
  · rename_i h0 hh
    split at hr
    · rename_i l0 hl
      cases hr
      have h1 : ∀ v', hi' = some v' → (Instr.sliceBound v' cap' (if isS then .sliceAcap else .sliceAlen)).run P w = .ok h w := by
        intro v' hv'
        cases hi with
        | none => rw [hhi0 rfl] at hv'; cases hv'
        | some v =>
          obtain ⟨v1, e1, r1⟩ := hhi v rfl
          rw [e1] at hv'; cases hv'
          exact (abound_sound r1 hc _ hh).1
      have hle : h ≤ cap := by
        cases hi with
        | none => simp at hh; omega
        | some v => unfold abound at hh; simp only at hh; split at hh <;> (try split at hh) <;> simp at hh; omega
      have h2 : ∀ v', lo' = some v' → (Instr.sliceBound v' h .sliceB).run P w = .ok l w := by
        intro v' hv'
        cases lo with
        | none => rw [hlo0 rfl] at hv'; cases hv'
        | some v =>
          obtain ⟨v1, e1, r1⟩ := hlo v rfl
          rw [e1] at hv'; cases hv'
          exact (abound_sound r1 (Nat.le_refl _) _ hl).1
      have hll : l ≤ h := by
        cases lo with
        | none => simp at hl; omega
        | some v => unfold abound at hl; simp only at hl; split at hl <;> (try split at hl) <;> simp at hl; omega
      refine ⟨?_, hll, hle⟩
      simp only [Instr.sliceBounds, Sem.run_bind, Sem.run_pure, Result.andThen_ok]
      cases hi' with
      | none =>
        have : hi = none := by cases hi with | none => rfl | some v => obtain ⟨_, e, _⟩ := hhi v rfl; cases e
        subst this
        simp at hh; subst hh
        cases lo' with
        | none =>
          have : lo = none := by cases lo with | none => rfl | some v => obtain ⟨_, e, _⟩ := hlo v rfl; cases e
          subst this
          simp at hl; subst hl
          simp
        | some v' => simp [h2 v' rfl]
      | some v1 =>
        cases lo' with
        | none =>
          have : lo = none := by cases lo with | none => rfl | some v => obtain ⟨_, e, _⟩ := hlo v rfl; cases e
          subst this
          simp at hl; subst hl
          simp [h1 v1 rfl]
        | some v' => simp [h1 v1 rfl, h2 v' rfl]
    · cases hr
  · cases hr
end
end Go.Am
namespace Go.Am
noncomputable section
def wrapF : IntKind → Int → Int
  | .u8, n => n % 256
  | .u16, n => n % 65536
  | .u32, n => n % 4294967296
  | .u64, n => n % 18446744073709551616
  | .i8, n => if 128 ≤ n % 256 then n % 256 - 256 else n % 256
  | .i16, n => if 32768 ≤ n % 65536 then n % 65536 - 65536 else n % 65536
  | .i32, n => if 2147483648 ≤ n % 4294967296 then n % 4294967296 - 4294967296 else n % 4294967296
  | .i64, n => if 9223372036854775808 ≤ n % 18446744073709551616 then n % 18446744073709551616 - 18446744073709551616 else n % 18446744073709551616
theorem wrapF_eq (k : IntKind) (n : Int) : wrapF k n = k.wrap n := by
  cases k <;> simp [wrapF, IntKind.wrap, IntKind.bits, IntKind.signed]
def pow2 (k : IntKind) : Int := match k with
  | .i8 | .u8 => 256
  | .i16 | .u16 => 65536
  | .i32 | .u32 => 4294967296
  | .i64 | .u64 => 18446744073709551616
theorem pow2_eq (k : IntKind) : pow2 k = ((2 ^ k.bits : Nat) : Int) := by cases k <;> rfl
def abits (op : BinOp) (k : IntKind) (a b : Int) : Option Int :=
  match op with
  | .and => some (wrapF k (((a % pow2 k).toNat &&& (b % pow2 k).toNat : Nat) : Int))
  | .or => some (wrapF k (((a % pow2 k).toNat ||| (b % pow2 k).toNat : Nat) : Int))
  | .xor => some (wrapF k (((a % pow2 k).toNat ^^^ (b % pow2 k).toNat : Nat) : Int))
  | _ => none
theorem abits_sound {P : Program} {w : World} {op : BinOp} {k : IntKind} {a b n : Int} (h : abits op k a b = some n) : (Op.intBits op k a b).run P w = .ok (.int k n) w := by
  unfold abits at h
  split at h
  all_goals first
    | (cases h; simp [Op.intBits, wrapF_eq, pow2_eq, BitVec.toNat_ofInt])
    | cases h
def abin (op : BinOp) (k : IntKind) (a : Int) (k' : IntKind) (b : Int) : Option Value :=
  match op with
  | .shl => if b < 0 then none else some (.int k (wrapF k (a * ((2 ^ min b.toNat k.bits : Nat) : Int))))
  | .shr => if b < 0 then none else some (.int k (a.fdiv ((2 ^ min b.toNat k.bits : Nat) : Int)))
  | .add => if k = k' then some (.int k (wrapF k (a + b))) else none
  | .sub => if k = k' then some (.int k (wrapF k (a - b))) else none
  | .mul => if k = k' then some (.int k (wrapF k (a * b))) else none
  | .quo => if k = k' ∧ b ≠ 0 then some (.int k (wrapF k (a.tdiv b))) else none
  | .rem => if k = k' ∧ b ≠ 0 then some (.int k (a.tmod b)) else none
  | .and => if k = k' then (abits .and k a b).map (.int k ·) else none
  | .or => if k = k' then (abits .or k a b).map (.int k ·) else none
  | .xor => if k = k' then (abits .xor k a b).map (.int k ·) else none
  | .eql => if k = k' then some (.bool (a == b)) else none
  | .neq => if k = k' then some (.bool (a != b)) else none
  | .lss => if k = k' then some (.bool (decide (a < b))) else none
  | .leq => if k = k' then some (.bool (decide (a ≤ b))) else none
  | .gtr => if k = k' then some (.bool (decide (a > b))) else none
  | .geq => if k = k' then some (.bool (decide (a ≥ b))) else none
  | _ => none
theorem abin_lit {op : BinOp} {k k' : IntKind} {a b : Int} {v : Value} (h : abin op k a k' b = some v) : lit2 v = true := by
  unfold abin at h
  split at h
  all_goals (try split at h)
  all_goals first
    | (cases h; done)
    | (cases h; rfl)
    | (unfold abits at h; simp at h; subst h; rfl)
theorem abin_sound {P : Program} {w : World} {op : BinOp} {k k' : IntKind} {a b : Int} {v : Value} (t : TypeId) (h : abin op k a k' b = some v) :
    (binOp op t (.int k a) (.int k' b)).run P w = .ok v w := by
  unfold abin at h
  split at h
  case h_1 =>
    split at h
    · cases h
    · rename_i hb; cases h; simp [binOp, Op.shift, hb, wrapF_eq]
  case h_2 =>
    split at h
    · cases h
    · rename_i hb; cases h; simp [binOp, Op.shift, hb]
  case h_8 =>
    split at h
    · rename_i hk; subst hk
      cases hx : abits .and k a b with
      | none => rw [hx] at h; cases h
      | some n => rw [hx] at h; cases h; simp only [binOp, ne_eq, not_true, if_false]; exact abits_sound hx
    · cases h
  case h_9 =>
    split at h
    · rename_i hk; subst hk
      cases hx : abits .or k a b with
      | none => rw [hx] at h; cases h
      | some n => rw [hx] at h; cases h; simp only [binOp, ne_eq, not_true, if_false]; exact abits_sound hx
    · cases h
  case h_10 =>
    split at h
    · rename_i hk; subst hk
      cases hx : abits .xor k a b with
      | none => rw [hx] at h; cases h
      | some n => rw [hx] at h; cases h; simp only [binOp, ne_eq, not_true, if_false]; exact abits_sound hx
    · cases h
  all_goals first
    | (cases h; done)
    | (split at h
       · rename_i hk
         first
           | (subst hk; cases h; simp [binOp, Op.intArith, Op.intCmp, wrapF_eq]; done)
           | (obtain ⟨rfl, hb⟩ := hk; cases h; simp [binOp, Op.intDiv, hb, wrapF_eq])
       · cases h)
end
end Go.Am
namespace Go.Am
noncomputable section
def smallB (P : Program) (be : TypeId) (n : Nat) : Bool := match P.info? be with
  | some bi => decide (bi.size < n)
  | none => true
def aslice (P : Program) (t : TypeId) (v : Value) (lo hi : Option Value) (m : Mem) : Option Value :=
  match P.underlying t, v with
  | some (.array n elem), .pointer (some ⟨b, o, none⟩) =>
    match P.info? elem with
    | some e =>
      match abounds n n lo hi with
      | some (l, h) => some (.slice (some ⟨b, if n = l then o else o + l * e.size, none⟩) (h - l) (n - l))
      | none => none
    | none => none
  | some (.slice elem), .slice (some ⟨b, o, none⟩) len c =>
    match P.info? elem, look m b with
    | some e, some (_, be, _) =>
      match abounds len c lo hi with
      | some (l, h) => if l = c ∨ (decide (1 < e.size) && smallB P be e.size) = true ∨ c < len then none else some (.slice (some ⟨b, o + l * e.size, none⟩) (h - l) (c - l))
      | none => none
    | _, _ => none
  | _, _ => none
theorem aslice_sound {P : Program} {ρ : Ren} {m : Mem} {w : World} (hm : MR P ρ m w) {t : TypeId} {v v' u : Value} {lo hi lo' hi' : Option Value} (hv : VR ρ v v')
    (hlo : ∀ v, lo = some v → ∃ v', lo' = some v' ∧ VR ρ v v') (hlo0 : lo = none → lo' = none) (hhi : ∀ v, hi = some v → ∃ v', hi' = some v' ∧ VR ρ v v') (hhi0 : hi = none → hi' = none)
    (h : aslice P t v lo hi m = some u) :
    ∃ u', (Instr.sliceAt t v' lo' hi' none).run P w = .ok u' w ∧ VR ρ u u' := by
  unfold aslice at h
  split at h
  · rename_i n elem b o hu
    split at h
    · rename_i e he
      split at h
      · rename_i l h0 hb
        cases h
        obtain ⟨x, hx, rfl⟩ := vr_ptr_inv hv
        obtain ⟨hr, h1, h2⟩ := abounds_sound (P := P) (w := w) false hlo hlo0 hhi hhi0 (Nat.le_refl _) (Nat.le_refl _) hb
        refine ⟨.slice (some ⟨x.r, if n = l then o else o + l * e.size, none⟩) (h0 - l) (n - l), ?_, .slice hx (.inl rfl)⟩
        simp only [Instr.sliceAt, Sem.run_bind, run_underlying hu, Result.andThen_ok, Instr.sureAddr, Sem.run_pure, hr, run_sizeOf' he, add_plain]
        split <;> rfl
      · cases h
    · cases h
  · rename_i elem b o len c hu
    split at h
    · rename_i e ro be cs he hbk
      split at h
      · rename_i l h0 hb
        split at h
        · cases h
        · rename_i hno
          cases h
          obtain ⟨x, c', hx, rfl, hc⟩ := vr_slice_inv hv
          obtain ⟨x', c1, fr, hx', hw, hn, hl, _, _, hs⟩ := hm.row b ro be cs hbk
          rw [hx] at hx'; cases hx'
          have hsz : x.s = 0 ∨ e.size ≤ x.s := by
            by_cases h1 : 1 < e.size
            · right
              have h2 : smallB P be e.size = false := by
                cases hb2 : smallB P be e.size with
                | false => rfl
                | true => exact absurd (.inr (.inl (by rw [hb2, decide_eq_true h1]; rfl))) hno
              unfold smallB at h2
              split at h2
              · rename_i bi hbi
                rw [hbi] at hs
                simp only [Option.map_some, Option.some.injEq] at hs
                have := of_decide_eq_false h2
                omega
              · cases h2
            · omega
          have hno1 : l ≠ c := fun h => hno (.inl h)
          have hno2 : ¬ c < len := fun h => hno (.inr (.inr h))
          have hcc : c ≤ c' := by rcases hc with rfl | ⟨h, _⟩ <;> omega
          obtain ⟨hr, h1, h2⟩ := abounds_sound (P := P) (w := w) true hlo hlo0 hhi hhi0 hcc (by omega) hb
          refine ⟨.slice (some ⟨x.r, o + l * e.size, none⟩) (h0 - l) (c' - l), ?_, .slice hx ?_⟩
          · simp only [Instr.sliceAt, Instr.slice, Sem.run_bind, run_underlying hu, Result.andThen_ok, hr, run_sizeOf' he, Sem.run_pure]
            rw [if_neg (by omega)]
            simp only [Option.map_some, add_plain]
          · rcases hc with rfl | ⟨h3, h4⟩
            · left; rfl
            · right
              refine ⟨by omega, ?_⟩
              rcases h4 with h4 | h4
              · exact .inl h4
              · rcases hsz with h9 | h9
                · exact .inl h9
                · right
                  have h5 : l * e.size ≤ l * x.s := Nat.mul_le_mul_left _ (by omega)
                  have h6 : l * x.s + (c' - l) * x.s = c' * x.s := by rw [← Nat.add_mul]; congr 1; omega
                  omega
      · cases h
    · cases h
  · cases h
def aslice3 (P : Program) (t : TypeId) (v : Value) (lo hi : Option Value) (mx : Value) : Option Value :=
  match P.underlying t, v, hi with
  | some (.slice elem), .slice (some ⟨b, o, none⟩) len c, some hv =>
    match P.info? elem with
    | some e => match abound mx c with
      | some mm => match abound hv mm with
        | some h => match (match lo with | some lv => abound lv h | none => some 0) with
          | some l => if mm = l then none else some (.slice (some ⟨b, o + l * e.size, none⟩) (h - l) (mm - l))
          | none => none
        | none => none
      | none => none
    | none => none
  | _, _, _ => none
theorem aslice3_sound {P : Program} {ρ : Ren} {w : World} {t : TypeId} {v v' u mx mx' : Value} {lo hi lo' hi' : Option Value} (hv : VR ρ v v') (hmx : VR ρ mx mx')
    (hlo : ∀ v, lo = some v → ∃ v', lo' = some v' ∧ VR ρ v v') (hlo0 : lo = none → lo' = none) (hhi : ∀ v, hi = some v → ∃ v', hi' = some v' ∧ VR ρ v v')
    (h : aslice3 P t v lo hi mx = some u) :
    ∃ u', (Instr.sliceAt t v' lo' hi' (some mx')).run P w = .ok u' w ∧ VR ρ u u' := by
  unfold aslice3 at h
  split at h
  · rename_i elem b o len c hv0 hu
    split at h
    · rename_i e he
      split at h
      · rename_i mm hmm
        split at h
        · rename_i h0 hh
          split at h
          · rename_i l hl
            split at h
            · cases h
            · rename_i hne
              cases h
              obtain ⟨x, c', hx, rfl, hc⟩ := vr_slice_inv hv
              have hcc : c ≤ c' := by rcases hc with rfl | ⟨h, _⟩ <;> omega
              obtain ⟨hv', e1, r1⟩ := hhi hv0 rfl
              have m1 := (abound_sound (P := P) (w := w) hmx hcc .slice3Acap hmm).1
              have m2 := (abound_sound (P := P) (w := w) r1 (Nat.le_refl _) .slice3B hh).1
              refine ⟨.slice (some ⟨x.r, o + l * e.size, none⟩) (h0 - l) (mm - l), ?_, .slice hx (.inl rfl)⟩
              subst e1
              have hb : (Instr.sliceBounds true len c' lo' (some hv') (some mx')).run P w = .ok (l, h0, mm) w := by
                cases lo with
                | none =>
                  rw [hlo0 rfl]
                  simp only [Option.some.injEq] at hl
                  subst hl
                  simp only [Instr.sliceBounds, Sem.run_bind, Sem.run_pure, Result.andThen_ok, if_true, m1, m2]
                | some lv =>
                  obtain ⟨lv', e2, r2⟩ := hlo lv rfl
                  subst e2
                  have m3 := (abound_sound (P := P) (w := w) r2 (Nat.le_refl _) .slice3C hl).1
                  simp only [Instr.sliceBounds, Sem.run_bind, Sem.run_pure, Result.andThen_ok, if_true, m1, m2, Option.isSome_some, m3]
              simp only [Instr.sliceAt, Instr.slice, Sem.run_bind, run_underlying hu, Result.andThen_ok, hb, run_sizeOf' he, Sem.run_pure]
              rw [if_neg (by omega)]
              simp only [Option.map_some, add_plain]
          · cases h
        · cases h
      · cases h
    · cases h
  · cases h
def aalloc (P : Program) (e : TypeId) (m : Mem) : Option (Value × Mem) :=
  match P.info? e with
  | some i => match i.zero with
    | some z => match vcells z with
      | some l => if l.all lit0 then some (.pointer (some ⟨m.length, 0, none⟩), m ++ [.row false e l]) else none
      | none => none
    | none => none
  | none => none
def abox (P : Program) (e : TypeId) (v : Value) (m : Mem) : Option (Value × Mem) :=
  match P.info? e with
  | some _ => match vcells v with
    | some l => some (.pointer (some ⟨m.length, 0, none⟩), m ++ [.row false e l])
    | none => none
  | none => none
theorem loose_zero (n : Nat) : Loose (0, 0) n := fun i _ h => by simp at h
theorem abox_sound {P : Program} {ρ : Ren} {m m1 : Mem} {w : World} (hm : MR P ρ m w) {e : TypeId} {v v' u : Value} (hv : VR ρ v v') (h : abox P e v m = some (u, m1)) :
    ∃ u' w1 ρ1, (Instr.box e v').run P w = .ok u' w1 ∧ VR ρ1 u u' ∧ MR P ρ1 m1 w1 ∧ Ext ρ m w ρ1 m1 w1 := by
  unfold abox at h
  split at h
  · rename_i i hi
    split at h
    · rename_i l hl
      cases h
      obtain ⟨h1, h2, _⟩ := vcells_vr hv hl
      have := hm.alloc (e := e) (cs := l) (c := v'.cells) (s := i.size) (ro := false) (0, 0) (fun _ => loose_zero _) (by rw [hi]; rfl) (by omega) (fun j y hy => by
        have hj : j < v'.cells.size := by rw [← h1]; exact (List.getElem?_eq_some_iff.1 hy).1
        exact ⟨v'.cells[j], by simp [hj], h2 j y _ hy (by simp [hj])⟩)
      refine ⟨.pointer (some ⟨w.heap.size, 0, none⟩), _, _, ?_, ?_, this.1, this.2⟩
      · simp only [Instr.box, newVar, newRow, Sem.run_bind, run_newObj, Result.andThen_ok, Sem.run_pure]
        rfl
      · exact VR.ptr (x := ⟨w.heap.size, v'.cells.size, i.size⟩) (by simp [Ren.put])
    · cases h
  · cases h
theorem aalloc_sound {P : Program} {ρ : Ren} {m m1 : Mem} {w : World} (hm : MR P ρ m w) {e : TypeId} {u : Value} (h : aalloc P e m = some (u, m1)) :
    ∃ u' w1 ρ1, (Instr.alloc e true (.tuple #[])).run P w = .ok u' w1 ∧ VR ρ1 u u' ∧ MR P ρ1 m1 w1 ∧ Ext ρ m w ρ1 m1 w1 := by
  unfold aalloc at h
  split at h
  · rename_i i hi
    split at h
    · rename_i z hz
      split at h
      · rename_i l hl
        split at h
        · rename_i hall
          cases h
          have hzv : VR ρ z z := by
            cases z <;> simp only [vcells] at hl
            case agg cs =>
              split at hl
              · cases hl; exact .lit (by simpa [lit2, lit1] using hall)
              · cases hl
            case tuple => cases hl
            case chan r => cases r <;> simp at hl; subst hl; exact .lit (lit2_of_lit1 (lit1_of_lit0 (by simpa using hall)))
            all_goals (simp only [Option.some.injEq] at hl; subst hl; exact .lit (lit2_of_lit1 (lit1_of_lit0 (by simpa using hall))))
          obtain ⟨u', w1, ρ1, hr, hrest⟩ := abox_sound (e := e) (m1 := m ++ [.row false e l]) (u := .pointer (some ⟨m.length, 0, none⟩)) hm hzv (by simp [abox, hi, hl])
          refine ⟨u', w1, ρ1, ?_, hrest⟩
          simp only [Instr.alloc, zeroValue, Sem.run_bind, run_typeInfo' hi, Result.andThen_ok, hz, Sem.run_pure]
          simpa [Instr.box] using hr
        · cases h
      · cases h
    · cases h
  · cases h
def aextract (v : Value) (i : Nat) : Option Value :=
  match v with
  | .tuple vs => vs.toList[i]?
  | _ => none
theorem aextract_sound {P : Program} {ρ : Ren} {w : World} {v v' u : Value} {i : Nat} (hv : VR ρ v v') (h : aextract v i = some u) :
    ∃ u', (Instr.extract v' i).run P w = .ok u' w ∧ VR ρ u u' := by
  unfold aextract at h
  split at h
  · rename_i vs
    cases hv with
    | lit hl =>
      refine ⟨u, ?_, .lit ?_⟩
      · have : vs[i]? = some u := by simpa using h
        simp [Instr.extract, this]
      · simp only [lit2] at hl
        exact lit2_of_lit1 ((List.all_eq_true.1 hl) u (List.mem_of_getElem? h))
    | tuple hn hx =>
      rename_i l l'
      have hi : i < l.length := (List.getElem?_eq_some_iff.1 h).1
      have hi' : i < l'.length := by omega
      refine ⟨l'[i], ?_, hx i _ _ h (by simp [hi'])⟩
      simp [Instr.extract, hi']
  · cases h
def apure (P : Program) (T : List Value) (o : Oper) : Option Value :=
  if o.op.operands.toList.all (fun x => lit2 (ev T x)) then
    match pv P (execOp (ev T) o) with
    | some (.value v) => if lit2 v then some v else none
    | _ => none
  else none
def isSelect : Op → Bool
  | .select _ _ => true
  | _ => false
def aindex (P : Program) (t : TypeId) (v ix : Value) : Option Value :=
  match ix with
  | .int _ i =>
    match v with
    | .agg cs => match P.underlying t with
      | some (.array len elem) => if 0 ≤ i ∧ i < (len : Int) then match P.info? elem with
          | some e => match P.underlying elem with
            | some d => match aggD d with
              | false => cs.toList[i.toNat * e.size]?
              | true => none
            | none => none
          | none => none
        else none
      | _ => none
    | .string s => match P.underlying t with
      | some .string => if 0 ≤ i then match s.data.toList[i.toNat]? with
          | some b => some (.int .u8 (b.toNat : Int))
          | none => none
        else none
      | _ => none
    | _ => none
  | _ => none
theorem aindex_sound {P : Program} {ρ : Ren} {w : World} {t : TypeId} {v v' ix ix' u : Value} (hv : VR ρ v v') (hi : VR ρ ix ix') (h : aindex P t v ix = some u) :
    ∃ u', (Instr.index t v' ix').run P w = .ok u' w ∧ VR ρ u u' := by
  unfold aindex at h
  split at h
  · rename_i k i
    have := vr_int_inv hi; subst this
    split at h
    · rename_i cs
      split at h
      · rename_i len elem hu
        split at h
        · rename_i hb
          split at h
          · rename_i e he
            split at h
            · rename_i d hd
              split at h
              · rename_i hag
                have fin : ∀ (l : List Value) (y : Value), l[i.toNat * e.size]? = some y → (Instr.index t (.agg ⟨l⟩) (.int k i)).run P w = .ok y w := by
                  intro l y hy
                  simp only [Instr.index, asIntOf, Sem.run_bind, Sem.run_pure, Result.andThen_ok, run_underlying hu, hb, and_self, if_true, run_sizeOf' he, part, run_isAgg' hd, hag, Bool.false_eq_true, if_false]
                  simp [hy]
                cases hv with
                | lit hl =>
                  refine ⟨u, fin cs.toList u h, .lit ?_⟩
                  simp only [lit2, lit1] at hl
                  exact lit2_of_lit1 (lit1_of_lit0 ((List.all_eq_true.1 hl) u (List.mem_of_getElem? h)))
                | agg hn hx =>
                  rename_i l l'
                  have hlt : i.toNat * e.size < l.length := (List.getElem?_eq_some_iff.1 h).1
                  have hlt' : i.toNat * e.size < l'.length := by omega
                  exact ⟨l'[i.toNat * e.size], fin l' _ (by simp [hlt']), hx _ _ _ h (by simp [hlt'])⟩
              · cases h
            · cases h
          · cases h
        · cases h
      · cases h
    · rename_i s
      have := hv.eq_of_lit2 rfl; subst this
      split at h
      · rename_i hu
        split at h
        · rename_i hb
          split at h
          · rename_i b hs
            cases h
            refine ⟨_, ?_, .lit rfl⟩
            have hg : s[i.toNat]? = some b := by
              have hlt : i.toNat < s.data.toList.length := (List.getElem?_eq_some_iff.1 hs).1
              have hlt' : i.toNat < s.size := by simpa using hlt
              have e1 := (List.getElem?_eq_some_iff.1 hs).2
              rw [getElem?_pos s i.toNat hlt']
              congr 1
            simp only [Instr.index, asIntOf, Sem.run_bind, Sem.run_pure, Result.andThen_ok, run_underlying hu, hb, if_true, hg]
          · cases h
        · cases h
      · cases h
    · cases h
  · cases h
def aconv (P : Program) (src dst : TypeId) (v : Value) : Option Value :=
  match v with
  | .int _ n => match P.underlying src with
    | some _ => match P.underlying dst with
      | some (.int k) => some (.int k (wrapF k n))
      | _ => none
    | none => none
  | _ => none
theorem aconv_sound {P : Program} {ρ : Ren} {w : World} {src dst : TypeId} {v v' u : Value} (hv : VR ρ v v') (h : aconv P src dst v = some u) :
    (convert src dst v').run P w = .ok u w ∧ lit2 u = true := by
  unfold aconv at h
  split at h
  · rename_i k0 n
    have := vr_int_inv hv; subst this
    split at h
    · rename_i d hd
      split at h
      · rename_i k hk
        cases h
        refine ⟨?_, rfl⟩
        simp only [convert, Sem.run_bind, run_underlying hd, run_underlying hk, Result.andThen_ok, Conv.intToInt, Sem.run_pure, wrapF_eq]
      · cases h
    · cases h
  · cases h
def aop (P : Program) (T : List Value) (m : Mem) (o : Oper) : Option (Value × Mem) :=
  match o.op with
  | .move x => some (ev T x, m)
  | .assign x => some (ev T x, m)
  | .pick c a b => match ev T c with
    | .bool t => some (if t then ev T a else ev T b, m)
    | _ => none
  | .alloc e => aalloc P e m
  | .box e x => abox P e (ev T x) m
  | .load t x => (aload P t (ev T x) m).map (·, m)
  | .store t x y => (astore P t (ev T x) (ev T y) m).map (undef, ·)
  | .indexAddr t x ix => (aindexAddr P t (ev T x) (ev T ix)).map (·, m)
  | .fieldAddr s x f => (afieldAddr P s (ev T x) f).map (·, m)
  | .slice t x lo hi none => match ev T x with
    | .pointer (some _) | .slice (some _) _ _ => (aslice P t (ev T x) (lo.map (ev T)) (hi.map (ev T)) m).map (·, m)
    | _ => (apure P T o).map (·, m)
  | .slice t x lo hi (some mx) => match ev T x with
    | .slice (some _) _ _ => (aslice3 P t (ev T x) (lo.map (ev T)) (hi.map (ev T)) (ev T mx)).map (·, m)
    | _ => (apure P T o).map (·, m)
  | .extract x i => (aextract (ev T x) i).map (·, m)
  | .binOp op _ x y _ => match ev T x with
    | .int k a => match ev T y with
      | .int k' b => match abin op k a k' b with
        | some v => some (v, m)
        | none => (apure P T o).map (·, m)
      | _ => (apure P T o).map (·, m)
    | _ => (apure P T o).map (·, m)
  | .unOp .not _ x => match ev T x with
    | .bool b => some (.bool !b, m)
    | _ => (apure P T o).map (·, m)
  | .convert src dst x => match aconv P src dst (ev T x) with
    | some v => some (v, m)
    | none => (apure P T o).map (·, m)
  | .index t x ix => match aindex P t (ev T x) (ev T ix) with
    | some v => some (v, m)
    | none => (apure P T o).map (·, m)
  | .nilCheck x => match ev T x with
    | .pointer (some a) => some (.pointer (some a), m)
    | _ => (apure P T o).map (·, m)
  | _ => (apure P T o).map (·, m)
def Got (r : Result Next) (v : Value) (w : World) : Prop := r = .ok (.value v) w ∨ (r = .ok .skip w ∧ v = undef)
def okOp (P : Program) (op : Op) : Bool := op.operands.toList.all (okOperand P) && !isSelect op
def Sound (P : Program) (ρ : Ren) (m : Mem) (w : World) (r : Result Next) (v : Value) (m1 : Mem) : Prop :=
  ∃ v' w1 ρ1, Got r v' w1 ∧ VR ρ1 v v' ∧ MR P ρ1 m1 w1 ∧ Ext ρ m w ρ1 m1 w1
theorem apure_sound {P : Program} {ρ : Ren} {m : Mem} {w : World} {T : List Value} {a : Act} {o : Oper} (hm : MR P ρ m w) (hev : ∀ x, x ∈ o.op.operands.toList → VR ρ (ev T x) (a.eval x)) (hok : okOp P o.op = true) {v : Value}
    (h : apure P T o = some v) : Sound P ρ m w ((execOp a.eval o).run P w) v m := by
  unfold apure at h
  split at h
  · rename_i hall
    split at h
    · rename_i v0 hv
      split at h
      · rename_i hlit
        cases h
        simp only [okOp, Bool.and_eq_true] at hok
        have hsel : ∀ cs b, o.op ≠ .select cs b := by
          intro cs b e
          rw [e] at hok
          simp [isSelect] at hok
        have heq : execOp a.eval o = execOp (ev T) o := execOp_congr o hsel fun x hx => by
          have hx' : x ∈ o.op.operands.toList := by simpa using hx
          exact (hev x hx').eq_of_lit2 ((List.all_eq_true.1 hall) x hx')
        exact ⟨v, w, ρ, .inl (by rw [heq]; exact pv_run hv w), .lit hlit, hm, Ext.refl' _ hm.dom⟩
      · cases h
    · cases h
  · cases h
theorem sound_map {P : Program} {T : List Value} {o : Oper} {m m1 : Mem} {v : Value} (h : (apure P T o).map (·, m) = some (v, m1)) : apure P T o = some v ∧ m1 = m := by
  cases hp : apure P T o with
  | none => rw [hp] at h; cases h
  | some u => rw [hp] at h; simp at h; exact ⟨by rw [h.1], h.2.symm⟩
theorem map_pair {α : Type} {x : Option Value} {m m1 : α} {v : Value} (h : x.map (·, m) = some (v, m1)) : x = some v ∧ m1 = m := by
  cases x with
  | none => cases h
  | some u => simp at h; exact ⟨by rw [h.1], h.2.symm⟩
theorem vr_ptr_some {ρ : Ren} {ad : Addr} {v' : Value} (h : VR ρ (.pointer (some ad)) v') : ∃ b o x, ad = ⟨b, o, none⟩ ∧ ρ b = some x ∧ v' = .pointer (some ⟨x.r, o, none⟩) := by
  cases h with
  | lit h => simp [lit2, lit1, lit0] at h
  | ptr h => exact ⟨_, _, _, rfl, h, rfl⟩
theorem aop_sound {P : Program} {ρ : Ren} {m m1 : Mem} {w : World} {T : List Value} {a : Act} {o : Oper} (hm : MR P ρ m w) (hev : ∀ x, x ∈ o.op.operands.toList → VR ρ (ev T x) (a.eval x)) (hok : okOp P o.op = true) {v : Value}
    (h : aop P T m o = some (v, m1)) : Sound P ρ m w ((execOp a.eval o).run P w) v m1 := by
  unfold aop at h
  split at h
  · rename_i x ho
    cases h
    exact ⟨_, w, ρ, .inl (by simp only [execOp, ho]; rfl), hev x (by simp [ho, Op.operands]), hm, Ext.refl' _ hm.dom⟩
  · rename_i x ho
    cases h
    exact ⟨_, w, ρ, .inl (by simp only [execOp, ho]; rfl), hev x (by simp [ho, Op.operands]), hm, Ext.refl' _ hm.dom⟩
  · rename_i c x y ho
    split at h
    · rename_i t hc
      cases h
      have h0 := hev c (by simp [ho, Op.operands])
      rw [hc] at h0
      have h0' : a.eval c = .bool t := h0.eq_of_lit2 rfl
      refine ⟨if t then a.eval x else a.eval y, w, ρ, .inl (by simp [execOp, ho, h0', asBool]), ?_, hm, Ext.refl' _ hm.dom⟩
      cases t
      · exact hev y (by simp [ho, Op.operands])
      · exact hev x (by simp [ho, Op.operands])
    · cases h
  · rename_i e ho
    obtain ⟨u', w1, ρ1, hr, hrest⟩ := aalloc_sound hm h
    exact ⟨u', w1, ρ1, .inl (by simp [execOp, ho, hr]), hrest⟩
  · rename_i e x ho
    obtain ⟨u', w1, ρ1, hr, hrest⟩ := abox_sound hm (hev x (by simp [ho, Op.operands])) h
    exact ⟨u', w1, ρ1, .inl (by simp [execOp, ho, hr]), hrest⟩
  · rename_i t x ho
    obtain ⟨h9, rfl⟩ := map_pair h
    obtain ⟨u', hr, hv⟩ := aload_sound hm (hev x (by simp [ho, Op.operands])) h9
    exact ⟨u', w, ρ, .inl (by simp [execOp, ho, hr]), hv, hm, Ext.refl' _ hm.dom⟩
  · rename_i t x y ho
    cases hs : astore P t (ev T x) (ev T y) m with
    | none => rw [hs] at h; cases h
    | some m2 =>
      rw [hs] at h
      simp at h
      obtain ⟨rfl, rfl⟩ := h
      obtain ⟨w1, hr, h1, h2⟩ := astore_sound hm (hev x (by simp [ho, Op.operands])) (hev y (by simp [ho, Op.operands])) hs
      exact ⟨undef, w1, ρ, .inr ⟨by simp [execOp, ho, hr], rfl⟩, vr_undef ρ, h1, h2⟩
  · rename_i t x ix ho
    obtain ⟨h9, rfl⟩ := map_pair h
    obtain ⟨u', hr, hv⟩ := aindexAddr_sound (w := w) (hev x (by simp [ho, Op.operands])) (hev ix (by simp [ho, Op.operands])) h9
    exact ⟨u', w, ρ, .inl (by simp [execOp, ho, hr]), hv, hm, Ext.refl' _ hm.dom⟩
  · rename_i s x f ho
    obtain ⟨h9, rfl⟩ := map_pair h
    obtain ⟨u', hr, hv⟩ := afieldAddr_sound (w := w) (hev x (by simp [ho, Op.operands])) h9
    exact ⟨u', w, ρ, .inl (by simp [execOp, ho, hr]), hv, hm, Ext.refl' _ hm.dom⟩
  · rename_i t x lo hi ho
    have hs : (aslice P t (ev T x) (lo.map (ev T)) (hi.map (ev T)) m).map (·, m) = some (v, m1) → Sound P ρ m w ((execOp a.eval o).run P w) v m1 := by
      intro h
      obtain ⟨h9, rfl⟩ := map_pair h
      obtain ⟨u', hr, hv⟩ := aslice_sound (w := w) (lo' := lo.map a.eval) (hi' := hi.map a.eval) hm (hev x (by simp [ho, Op.operands]))
        (fun v hv => by cases lo with | none => cases hv | some y => cases hv; exact ⟨_, rfl, hev y (by simp [ho, Op.operands])⟩) (fun hv => by cases lo with | none => rfl | some y => cases hv)
        (fun v hv => by cases hi with | none => cases hv | some y => cases hv; exact ⟨_, rfl, hev y (by simp [ho, Op.operands])⟩) (fun hv => by cases hi with | none => rfl | some y => cases hv) h9
      exact ⟨u', w, ρ, .inl (by simp [execOp, ho, hr]), hv, hm, Ext.refl' _ hm.dom⟩
    split at h
    · exact hs h
    · exact hs h
    · obtain ⟨h9, rfl⟩ := sound_map h
      exact apure_sound hm hev hok h9
  · rename_i t x lo hi mx ho
    split at h
    · obtain ⟨h9, rfl⟩ := map_pair h
      obtain ⟨u', hr, hv⟩ := aslice3_sound (P := P) (w := w) (lo' := lo.map a.eval) (hi' := hi.map a.eval) (hev x (by simp [ho, Op.operands])) (hev mx (by simp [ho, Op.operands]))
        (fun v hv => by cases lo with | none => cases hv | some y => cases hv; exact ⟨_, rfl, hev y (by simp [ho, Op.operands])⟩) (fun hv => by cases lo with | none => rfl | some y => cases hv)
        (fun v hv => by cases hi with | none => cases hv | some y => cases hv; exact ⟨_, rfl, hev y (by simp [ho, Op.operands])⟩) h9
      exact ⟨u', w, ρ, .inl (by simp [execOp, ho, hr]), hv, hm, Ext.refl' _ hm.dom⟩
    · obtain ⟨h9, rfl⟩ := sound_map h
      exact apure_sound hm hev hok h9
  · rename_i x i ho
    obtain ⟨h9, rfl⟩ := map_pair h
    obtain ⟨u', hr, hv⟩ := aextract_sound (P := P) (w := w) (hev x (by simp [ho, Op.operands])) h9
    exact ⟨u', w, ρ, .inl (by simp [execOp, ho, hr]), hv, hm, Ext.refl' _ hm.dom⟩
  · rename_i op t x y t' ho
    split at h
    · rename_i k a0 hx
      split at h
      · rename_i k' b0 hy
        split at h
        · rename_i v0 hb
          cases h
          have h1 := hev x (by simp [ho, Op.operands])
          have h2 := hev y (by simp [ho, Op.operands])
          rw [hx] at h1
          rw [hy] at h2
          have e1 := vr_int_inv h1
          have e2 := vr_int_inv h2
          refine ⟨v, w, ρ, .inl ?_, .lit (abin_lit hb), hm, Ext.refl' _ hm.dom⟩
          have hgd : (eqGuard op t x y (.int k a0) (.int k' b0)).run P w = .ok () w := by
            unfold eqGuard
            cases op <;> simp
          simp [execOp, ho, e1, e2, hgd, abin_sound t hb]
        · obtain ⟨h9, rfl⟩ := sound_map h
          exact apure_sound hm hev hok h9
      · obtain ⟨h9, rfl⟩ := sound_map h
        exact apure_sound hm hev hok h9
    · obtain ⟨h9, rfl⟩ := sound_map h
      exact apure_sound hm hev hok h9
  · rename_i t x ho
    split at h
    · rename_i b hx
      cases h
      have h1 := hev x (by simp [ho, Op.operands])
      rw [hx] at h1
      have e1 : a.eval x = .bool b := h1.eq_of_lit2 rfl
      exact ⟨.bool !b, w, ρ, .inl (by simp [execOp, ho, e1, Op.unary]), .lit rfl, hm, Ext.refl' _ hm.dom⟩
    · obtain ⟨h9, rfl⟩ := sound_map h
      exact apure_sound hm hev hok h9
  · rename_i src dst x ho
    split at h
    · rename_i v0 hc
      cases h
      obtain ⟨hr, hl⟩ := aconv_sound (w := w) (hev x (by simp [ho, Op.operands])) hc
      exact ⟨v, w, ρ, .inl (by simp [execOp, ho, hr]), .lit hl, hm, Ext.refl' _ hm.dom⟩
    · obtain ⟨h9, rfl⟩ := sound_map h
      exact apure_sound hm hev hok h9
  · rename_i t x ix ho
    split at h
    · rename_i v0 hc
      cases h
      obtain ⟨u', hr, hv⟩ := aindex_sound (P := P) (w := w) (hev x (by simp [ho, Op.operands])) (hev ix (by simp [ho, Op.operands])) hc
      exact ⟨u', w, ρ, .inl (by simp [execOp, ho, hr]), hv, hm, Ext.refl' _ hm.dom⟩
    · obtain ⟨h9, rfl⟩ := sound_map h
      exact apure_sound hm hev hok h9
  · rename_i x ho
    split at h
    · rename_i ad hx
      cases h
      have h0 := hev x (by simp [ho, Op.operands])
      rw [hx] at h0
      obtain ⟨b, off, y, rfl, hb, e1⟩ := vr_ptr_some h0
      refine ⟨_, w, ρ, .inl ?_, .ptr hb, hm, Ext.refl' _ hm.dom⟩
      simp only [execOp, ho, e1]
      rfl
    · obtain ⟨h9, rfl⟩ := sound_map h
      exact apure_sound hm hev hok h9
  · obtain ⟨h9, rfl⟩ := sound_map h
    exact apure_sound hm hev hok h9
end
end Go.Am
