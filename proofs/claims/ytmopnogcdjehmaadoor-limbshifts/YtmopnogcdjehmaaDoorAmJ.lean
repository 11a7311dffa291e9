/-
  The abstract machine: functions without a body, which the model answers by itself (own work; nothing of a dump).
-/
import Derived.Test.YtmopnogcdjehmaaDoorAmI
set_option linter.unusedSimpArgs false
set_option linter.unusedVariables false
namespace Go.Am
noncomputable section

/-- Which one it is: the sum and the difference of words with a carry; what is handed back as it came; new bytes that hold anything. -/
inductive XK where
  | add64
  | sub64
  | same
  | noZero (elem : TypeId)

def pair64 (a b : Nat) : Value := .tuple ⟨[.int .u64 (a : Int), .int .u64 (b : Int)]⟩

/-- What is asked of the program for such a function. -/
def XIs (P : Program) (g : FuncId) : XK → Prop
  | .add64 => ∀ (kx ky kc : IntKind) (x y c : Int) (w : World), c.toNat ≤ 1 → (callFunc g #[.int kx x, .int ky y, .int kc c]).run P w =
      .ok (.value (pair64 ((x.toNat + y.toNat + c.toNat) % 18446744073709551616) ((x.toNat + y.toNat + c.toNat) / 18446744073709551616))) w
  | .sub64 => ∀ (kx ky kc : IntKind) (x y c : Int) (w : World), c.toNat ≤ 1 → (callFunc g #[.int kx x, .int ky y, .int kc c]).run P w =
      .ok (.value (pair64 ((x.toNat + 18446744073709551616 - y.toNat - c.toNat) % 18446744073709551616) (if x.toNat < y.toNat + c.toNat then 1 else 0))) w
  | .same => ∀ (x : Value) (w : World), (callFunc g #[x]).run P w = .ok (.value x) w
  | .noZero e => (P.info? e).map (·.size) = some 1 ∧ ∀ (n : Int) (w : World), 0 ≤ n → n ≤ 281474976710656 → ∃ (cap d : Nat) (c : Array Value), n.toNat ≤ cap ∧ c.size = cap ∧
      (callFunc g #[.int .i64 n]).run P w = .ok (.value (.slice (some ⟨w.heap.size, 0, none⟩) n.toNat cap)) (({ w with drawn := d } : World).alloc (.cells c e))

def aext (k : XK) (args : List Value) (m : Mem) : Option (Value × Mem) :=
  match k with
  | .add64 => match args with
    | [.int _ x, .int _ y, .int _ c] => if c.toNat ≤ 1 then some (pair64 ((x.toNat + y.toNat + c.toNat) % 18446744073709551616) ((x.toNat + y.toNat + c.toNat) / 18446744073709551616), m) else none
    | _ => none
  | .sub64 => match args with
    | [.int _ x, .int _ y, .int _ c] => if c.toNat ≤ 1 then some (pair64 ((x.toNat + 18446744073709551616 - y.toNat - c.toNat) % 18446744073709551616) (if x.toNat < y.toNat + c.toNat then 1 else 0), m) else none
    | _ => none
  | .same => match args with
    | [x] => some (x, m)
    | _ => none
  | .noZero e => match args with
    | [.int .i64 n] => if 0 ≤ n ∧ n ≤ 281474976710656 then some (.slice (some ⟨m.length, 0, none⟩) n.toNat n.toNat, m ++ [.row false e (List.replicate n.toNat junk)]) else none
    | _ => none

theorem tr_one {ρ : Ren} {x : Value} {args' : Array Value} (h : TR ρ [x] args') : ∃ x', args' = #[x'] ∧ VR ρ x x' := by
  have hs := h.size
  obtain ⟨l⟩ := args'
  match l, hs with
  | [x'], _ => exact ⟨x', rfl, h.at_ 0 x x' rfl rfl⟩

theorem tr_three {ρ : Ren} {x y z : Value} {args' : Array Value} (h : TR ρ [x, y, z] args') : ∃ x' y' z', args' = #[x', y', z'] ∧ VR ρ x x' ∧ VR ρ y y' ∧ VR ρ z z' := by
  have hs := h.size
  obtain ⟨l⟩ := args'
  match l, hs with
  | [x', y', z'], _ => exact ⟨x', y', z', rfl, h.at_ 0 x x' rfl rfl, h.at_ 1 y y' rfl rfl, h.at_ 2 z z' rfl rfl⟩

theorem aext_sound {P : Program} {ρ : Ren} {m m1 : Mem} {w : World} (hm : MR P ρ m w) {g : FuncId} {k : XK} (hk : XIs P g k) {args : List Value} {args' : Array Value} (ht : TR ρ args args') {v : Value} (h : aext k args m = some (v, m1)) :
    Sound P ρ m w ((callFunc g args').run P w) v m1 := by
  cases k with
  | add64 =>
    simp only [aext] at h
    split at h
    · rename_i k1 x k2 y k3 c
      split at h
      · rename_i hc
        cases h
        obtain ⟨x', y', z', rfl, h1, h2, h3⟩ := tr_three ht
        rw [vr_int_inv h1, vr_int_inv h2, vr_int_inv h3]
        exact ⟨_, w, ρ, .inl (hk k1 k2 k3 x y c w hc), .lit rfl, hm, Ext.refl' _ hm.dom⟩
      · cases h
    · cases h
  | sub64 =>
    simp only [aext] at h
    split at h
    · rename_i k1 x k2 y k3 c
      split at h
      · rename_i hc
        cases h
        obtain ⟨x', y', z', rfl, h1, h2, h3⟩ := tr_three ht
        rw [vr_int_inv h1, vr_int_inv h2, vr_int_inv h3]
        exact ⟨_, w, ρ, .inl (hk k1 k2 k3 x y c w hc), .lit rfl, hm, Ext.refl' _ hm.dom⟩
      · cases h
    · cases h
  | same =>
    simp only [aext] at h
    split at h
    · cases h
      obtain ⟨x', rfl, h1⟩ := tr_one ht
      exact ⟨x', w, ρ, .inl (hk x' w), h1, hm, Ext.refl' _ hm.dom⟩
    · cases h
  | noZero e =>
    simp only [aext] at h
    split at h
    · rename_i n
      split at h
      · rename_i hn
        cases h
        obtain ⟨x', rfl, h1⟩ := tr_one ht
        rw [vr_int_inv h1]
        obtain ⟨hs, hrun⟩ := hk
        obtain ⟨cap, d, c, hcap, hc, hr⟩ := hrun n w hn.1 hn.2
        have hal := (hm.drawn d).alloc (e := e) (cs := List.replicate n.toNat junk) (c := c) (s := 1) (ro := false) (0, 0) (fun _ => loose_zero _) hs (by simp; omega) (fun j y hy => by
          rw [List.getElem?_replicate] at hy
          split at hy
          · rename_i hj
            cases hy
            have : j < c.size := by omega
            exact ⟨c[j], by simp [this], .junk⟩
          · cases hy)
        refine ⟨_, _, _, .inl hr, ?_, hal.1, ?_⟩
        · exact VR.slice (x := ⟨w.heap.size, c.size, 1⟩) (by simp [Ren.put]) (.inr ⟨hcap, by simp; omega⟩)
        · exact ⟨hal.2.le, hal.2.same, hal.2.len, hal.2.fresh, hal.2.os, hal.2.tape, hal.2.output, hal.2.size, hal.2.kept, hal.2.own⟩
      · cases h
    · cases h

end
end Go.Am
