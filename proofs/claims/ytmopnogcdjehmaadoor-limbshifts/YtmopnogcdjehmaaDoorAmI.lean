/-
  The abstract machine: a text over bytes that are held from then on; functions that the model answers by itself (own work; nothing of a dump).
-/
import Derived.Test.YtmopnogcdjehmaaDoorAmH
set_option linter.unusedSimpArgs false
set_option linter.unusedVariables false
namespace Go.Am
noncomputable section

/-- A row is held from now on. -/
theorem MR.hold {P : Program} {ρ : Ren} {m : Mem} {w w' : World} (h : MR P ρ m w) {k : Nat} {e : TypeId} {cs : List Value} {x : At} {c : Array Value} {fr fr' : Nat × Nat}
    (hk : m[k]? = some (.row false e cs)) (hx : ρ k = some x) (hw : w.heap[x.r]? = some (.cells c e fr)) (hu : Upd w w' x.r (.cells c e fr')) :
    MR P ρ (m.set k (.row true e cs)) w' ∧ Ext ρ m w ρ (m.set k (.row true e cs)) w' := by
  have hcase : ∀ j b, (m.set k (.row true e cs))[j]? = some b → (j ≠ k ∧ m[j]? = some b) ∨ (j = k ∧ b = .row true e cs) := by
    intro j b hb
    rw [List.getElem?_set] at hb
    by_cases hj : k = j
    · subst hj
      simp only [if_true] at hb
      split at hb
      · right; exact ⟨rfl, (Option.some.inj hb).symm⟩
      · cases hb
    · simp only [hj, if_false] at hb
      left; exact ⟨fun e => hj e.symm, hb⟩
  have hlook : ∀ j q, look (m.set k (.row true e cs)) j = some q → (j ≠ k ∧ look m j = some q) ∨ (j = k ∧ q = (true, e, cs)) := by
    intro j q hq
    unfold look at hq
    split at hq
    · rename_i b hb
      rcases hcase j b hb with ⟨hj, hb⟩ | ⟨hj, rfl⟩
      · left; exact ⟨hj, by simp [look, hb, hq]⟩
      · right; simp [Blk.cells?] at hq; exact ⟨hj, hq.symm⟩
    · cases hq
  obtain ⟨x0, c0, fr0, hx0, hw0, hn0, hl0, hi0, hf0, hs0⟩ := h.row k false e cs (look_row hk)
  rw [hx] at hx0; cases hx0
  rw [hw] at hw0; cases hw0
  have old : ∀ (j : Nat) (ro : Bool) (e1 : TypeId) (cs1 : List Value), look (m.set k (Blk.row true e cs)) j = some (ro, e1, cs1) → ∃ ro2, look m j = some (ro2, e1, cs1) := by
    intro j ro e1 cs1 hb
    rcases hlook j _ hb with ⟨_, hb1⟩ | ⟨rfl, hb1⟩
    · exact ⟨ro, hb1⟩
    · cases hb1; exact ⟨false, look_row hk⟩
  have hrow : ∀ (j : Nat) (e1 : TypeId) (cs1 : List Value), (m.set k (Blk.row true e cs))[j]? = some (Blk.row false e1 cs1) → j ≠ k ∧ m[j]? = some (Blk.row false e1 cs1) := by
    intro j e1 cs1 hj
    rcases hcase j _ hj with hb | ⟨_, hb⟩
    · exact hb
    · cases hb
  refine ⟨⟨fun j hj => h.dom j (by simpa using hj), fun j y hy => by rw [hu.size]; exact h.bnd j y hy, h.glob, ?_, ?_, ?_⟩, ⟨Ren.le_refl _, fun _ _ => rfl, by simp, fun j y hj hy => by (rw [h.dom j hj] at hy; cases hy), hu.os, hu.tape, hu.output, by rw [hu.size]; exact Nat.le_refl _, ?_, ?_⟩⟩
  · intro j ro' e' cs1 hb
    rcases hlook j _ hb with ⟨hj, hb'⟩ | ⟨rfl, hb'⟩
    · obtain ⟨y, c1, fr1, hy, hw1, hn1, hl1, hi1, hf1, hs1⟩ := h.row j ro' e' cs1 hb'
      have hne : y.r ≠ x.r := fun e1 => hj (h.inj k e cs j ro' e' cs1 x y hk hb' hx hy e1.symm).symm
      exact ⟨y, c1, fr1, hy, by rw [hu.other _ hne]; exact hw1, hn1, hl1, hi1, hf1, hs1⟩
    · cases hb'
      exact ⟨x, c, fr', hx, hu.same, hn0, hl0, hi0, fun hh => (by cases hh), hs0⟩
  · intro j e1 cs1 j' ro' e' cs2 y y' hb hb' hy hy' hr
    obtain ⟨_, h2⟩ := hrow _ _ _ hb
    obtain ⟨ro3, h3⟩ := old _ _ _ _ hb'
    exact h.inj j e1 cs1 j' ro3 e' cs2 y y' h2 h3 hy hy' hr
  · intro j e1 cs1 hb
    rcases hcase j _ hb with ⟨_, hb1⟩ | ⟨_, hb1⟩
    · exact h.tab j e1 cs1 hb1
    · cases hb1
  · intro r hr hno
    exact hu.other r fun e1 => hno k e cs x hk hx e1.symm
  · intro j e1 cs1 y hb hy
    right; exact ⟨j, e1, cs1, y, (hrow _ _ _ hb).2, hy, rfl⟩

theorem upd_freeze {w : World} {g i n : Nat} {c : Array Value} {e : TypeId} {fr : Nat × Nat} (h : w.heap[g]? = some (.cells c e fr)) (hn : n ≠ 0) :
    ∃ fr', Upd w (w.freeze ⟨g, i, none⟩ n) g (.cells c e fr') := by
  obtain ⟨lo, hi⟩ := fr
  refine ⟨if lo == hi then (i, i + n) else (min lo i, max hi (i + n)), ?_⟩
  unfold World.freeze
  rw [if_neg hn]
  refine ⟨rfl, rfl, rfl, by simp, ?_, fun r hr => ?_⟩
  · simp [Array.getElem?_modify, h]
  · simp only [Array.getElem?_modify]
    rw [if_neg (fun e => hr e.symm)]

/-- A text over n bytes at p, which are held from then on. -/
def ausString (P : Program) (pt : TypeId) (p n : Value) (m : Mem) : Option (Value × Mem) :=
  match n with
  | .int _ k =>
    if k = 0 then match p with
      | .pointer none => some (.string ⟨#[]⟩, m)
      | .pointer (some ⟨_, _, none⟩) => some (.string ⟨#[]⟩, m)
      | _ => none
    else if 0 < k ∧ k ≤ 9223372036854775807 then
      match p with
      | .pointer (some ⟨b, o, none⟩) => match m[b]? with
        | some (.row false e cs) => match P.underlying pt with
          | some (.pointer u) =>
            if liesAt P P.depth e (cs.length / P.cellsOf e) o u k.toNat = true ∧ o + k.toNat ≤ cs.length then
              match bytesOf ((cs.drop o).take k.toNat) with
              | some bs => some (.string ⟨bs.toArray⟩, m.set b (.row true e cs))
              | none => none
            else none
          | _ => none
        | _ => none
      | _ => none
    else none
  | _ => none

theorem run_loadBytes {P : Program} {w : World} {g : Nat} : ∀ (ns : List Int) (o : Nat) (acc : ByteArray), (∀ (j : Nat) (n : Int), ns[j]? = some n → w.cell? ⟨g, o + j, none⟩ = some (.int .u8 n)) →
    (loadBytes ⟨g, o, none⟩ acc ns.length).run P w = .ok (ns.foldl (fun r n => r.push (UInt8.ofNat n.toNat)) acc) w
  | [], o, acc, _ => by simp [loadBytes]
  | n :: ns, o, acc, h => by
    have h0 := h 0 n rfl
    simp only [Nat.add_zero] at h0
    simp only [List.length_cons, loadBytes, Sem.run_bind, run_load, h0, Result.andThen_ok, add_plain, List.foldl_cons]
    exact run_loadBytes ns (o + 1) _ (fun j k hk => by
      have := h (j + 1) k (by simpa using hk)
      rw [show o + 1 + j = o + (j + 1) by omega]; exact this)

theorem usString_def (pt xt ty : TypeId) (p : Option Addr) (len : Value) : ∃ s1 s2 s3 s4, Builtin.unsafeString_ #[pt, xt] ty #[.pointer p, len] = (do
    let n ← asInt len
    if n < 0 then runtimePanic (.error s1)
    if n > IntKind.i64.max then unsupported s2
    match p with
    | none =>
      if n = 0 then pure (.string .empty)
      else runtimePanic (.error s3)
    | some a =>
      if n = 0 then pure (.string .empty)
      else if ← variablesAt a (← elemOf pt) n.toNat then do
        let s ← loadBytes a .empty n.toNat
        freeze a n.toNat
        pure (.string s)
      else unsupported s4 : Sem Value) := ⟨_, _, _, _, rfl⟩

theorem ausString_sound {P : Program} {ρ : Ren} {m m1 : Mem} {w : World} (hm : MR P ρ m w) {pt xt ty : TypeId} {p p' n n' u : Value} (hp : VR ρ p p') (hn : VR ρ n n') (h : ausString P pt p n m = some (u, m1)) :
    ∃ w1, (Builtin.unsafeString_ #[pt, xt] ty #[p', n']).run P w = .ok u w1 ∧ lit2 u = true ∧ MR P ρ m1 w1 ∧ Ext ρ m w ρ m1 w1 := by
  unfold ausString at h
  split at h
  · rename_i kk k
    have e1 := vr_int_inv hn; subst e1
    split at h
    · rename_i hk0
      subst hk0
      split at h
      · cases h
        have := hp.eq_of_lit2 rfl; subst this
        exact ⟨w, by obtain ⟨s1, s2, s3, s4, hdef⟩ := usString_def pt xt ty none (.int kk 0); rw [hdef]; simp [asInt, asIntOf, IntKind.max, IntKind.signed, IntKind.bits]; rfl, rfl, hm, Ext.refl' _ hm.dom⟩
      · cases h
        obtain ⟨x, hx, rfl⟩ := vr_ptr_inv hp
        exact ⟨w, by obtain ⟨s1, s2, s3, s4, hdef⟩ := usString_def pt xt ty (some ⟨x.r, _, none⟩) (.int kk 0); rw [hdef]; simp [asInt, asIntOf, IntKind.max, IntKind.signed, IntKind.bits]; rfl, rfl, hm, Ext.refl' _ hm.dom⟩
      · cases h
    · rename_i hk0
      split at h
      · rename_i hk
        split at h
        · rename_i b o
          split at h
          · rename_i e cs hb
            split at h
            · rename_i ut hut
              split at h
              · rename_i hc
                split at h
                · rename_i bs hbs
                  cases h
                  obtain ⟨x, hx, rfl⟩ := vr_ptr_inv hp
                  obtain ⟨x', c, fr, hx', hw, hsz, hlen, hi, hf, _⟩ := hm.row b false e cs (look_row hb)
                  rw [hx] at hx'; cases hx'
                  obtain ⟨fr', hup⟩ := upd_freeze (i := o) (n := k.toNat) hw (by omega)
                  have hh := hm.hold hb hx hw hup
                  refine ⟨w.freeze ⟨x.r, o, none⟩ k.toNat, ?_, rfl, hh.1, hh.2⟩
                  have hsh : w.shape? x.r = some (e, c.size) := by simp [World.shape?, hw]
                  have hlie : liesAt P P.depth e (c.size / P.cellsOf e) o ut k.toNat = true := liesAt_mono (Nat.div_le_div_right hlen) hc.1
                  have hva : (variablesAt ⟨x.r, o, none⟩ ut k.toNat).run P w = .ok true w := by simp [variablesAt, hsh, hlie]
                  obtain ⟨ns, hns, hbs2⟩ := bytesOf_ints hbs
                  have hnl : ns.length = k.toNat := by
                    have := congrArg List.length hns
                    simp at this; omega
                  have hcell : ∀ (j : Nat) (q : Int), ns[j]? = some q → w.cell? ⟨x.r, o + j, none⟩ = some (.int .u8 q) := by
                    intro j q hq
                    rw [cell_of_row w x.r (o + j) c e fr hw]
                    have hj : ((cs.drop o).take k.toNat)[j]? = some (.int .u8 q) := by rw [hns, List.getElem?_map, hq]; rfl
                    rw [List.getElem?_take] at hj
                    split at hj
                    · rw [List.getElem?_drop] at hj
                      obtain ⟨y, hy, hr⟩ := hi _ _ hj
                      rw [hy, hr.eq_of_lit0 rfl]
                    · cases hj
                  have hlb := run_loadBytes (P := P) ns o ByteArray.empty hcell
                  rw [hnl] at hlb
                  have hmax : ¬ (k > IntKind.i64.max) := by
                    have : IntKind.i64.max = 9223372036854775807 := by decide
                    rw [this]; omega
                  obtain ⟨s1, s2, s3, s4, hdef⟩ := usString_def pt xt ty (some ⟨x.r, o, none⟩) (.int kk k)
                  rw [hdef]
                  simp only [asInt, asIntOf, Sem.run_bind, Sem.run_pure, Result.andThen_ok]
                  rw [if_neg (by omega), if_neg hmax, if_neg hk0]
                  simp only [Sem.run_bind, elemOf, run_underlying hut, Result.andThen_ok, Sem.run_pure, hva, if_true, hlb, run_freeze]
                  rw [foldl_push]
                  simp [hbs2]
                · cases h
              · cases h
            · cases h
          · cases h
        · cases h
      · cases h
  · cases h

end
end Go.Am
