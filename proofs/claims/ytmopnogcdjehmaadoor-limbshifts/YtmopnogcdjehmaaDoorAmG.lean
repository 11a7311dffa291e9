/-
  The abstract machine: texts and bytes; pointers compared (own work; nothing of a dump).
-/
import Derived.Test.YtmopnogcdjehmaaDoorAmE
set_option linter.unusedSimpArgs false
set_option linter.unusedVariables false
namespace Go.Am
noncomputable section

def bytesOf : List Value → Option (List UInt8)
  | [] => some []
  | .int .u8 n :: l => match bytesOf l with
    | some bs => some (UInt8.ofNat n.toNat :: bs)
    | none => none
  | _ => none

theorem bytesOf_ints : ∀ {l : List Value} {bs : List UInt8}, bytesOf l = some bs → ∃ ns : List Int, l = ns.map (Value.int .u8) ∧ bs = ns.map fun n => UInt8.ofNat n.toNat
  | [], bs, h => by simp [bytesOf] at h; subst h; exact ⟨[], rfl, rfl⟩
  | v :: l, bs, h => by
    unfold bytesOf at h
    split at h
    · rename_i h0; cases h0
    · rename_i n l0 h0
      cases h0
      split at h
      · rename_i bs0 hb
        cases h
        obtain ⟨ns, rfl, rfl⟩ := bytesOf_ints hb
        exact ⟨n :: ns, rfl, rfl⟩
      · cases h
    · cases h

theorem foldl_push (ns : List Int) : ∀ b : ByteArray, ns.foldl (fun r n => r.push (UInt8.ofNat n.toNat)) b = ⟨(b.data.toList ++ ns.map fun n => UInt8.ofNat n.toNat).toArray⟩ := by
  induction ns with
  | nil => intro b; simp
  | cons n ns ih =>
    intro b
    rw [List.foldl_cons, ih]
    simp [ByteArray.push]

/-- Related cells that are bytes are the same. -/
theorem bytes_same {ρ : Ren} {l l' : List Value} (hn : l.length = l'.length) (hv : ∀ (i : Nat) (x y : Value), l[i]? = some x → l'[i]? = some y → VR ρ x y) {ns : List Int} (h : l = ns.map (Value.int .u8)) : l' = l := by
  refine list_eq_of_vr hn hv (p := lit0) (fun x y hx hr => hr.eq_of_lit0 hx) ?_
  rw [h, List.all_eq_true]
  intro x hx
  simp at hx
  obtain ⟨n, _, rfl⟩ := hx
  rfl

/-- A text of bytes; bytes of a text. -/
def aconvB (P : Program) (src dst : TypeId) (v : Value) (m : Mem) : Option (Value × Mem) :=
  match v with
  | .slice (some a) n c => match P.underlying src, P.underlying dst with
    | some (.slice e), some .string => match P.underlying e with
      | some (.int .u8) => match asrc m 1 (.slice (some a) n c) with
        | some (_, l) => match bytesOf l with
          | some bs => some (.string ⟨bs.toArray⟩, m)
          | none => none
        | none => none
      | _ => none
    | _, _ => none
  | .string s => match P.underlying src, P.underlying dst with
    | some _, some (.slice e) => match P.underlying e, zero1 P e with
      | some (.int .u8), some _ => some (.slice (some ⟨m.length, 0, none⟩) s.data.toList.length s.data.toList.length, m ++ [.row false e (s.data.toList.map fun b => .int .u8 (b.toNat : Int))])
      | _, _ => none
    | _, _ => none
  | _ => none

theorem aconvB_sound {P : Program} {ρ : Ren} {m m1 : Mem} {w : World} (hm : MR P ρ m w) {src dst : TypeId} {v v' u : Value} (hv : VR ρ v v') (h : aconvB P src dst v m = some (u, m1)) :
    ∃ u' w1 ρ1, (convert src dst v').run P w = .ok u' w1 ∧ VR ρ1 u u' ∧ MR P ρ1 m1 w1 ∧ Ext ρ m w ρ1 m1 w1 := by
  unfold aconvB at h
  split at h
  · rename_i a n c
    split at h
    · rename_i e hs hd
      split at h
      · rename_i he
        split at h
        · rename_i n0 l hsrc
          split at h
          · rename_i bs hb
            cases h
            have hn0 : n0 = n := by
              unfold asrc at hsrc
              split at hsrc
              · rename_i h0; cases h0; split at hsrc
                · split at hsrc
                  · cases hsrc; rfl
                  · cases hsrc
                · cases hsrc
              · rename_i h0; cases h0
              · rename_i h0; cases h0
              · cases hsrc
            subst hn0
            obtain ⟨hlen, hnl, l', hfirst, hl', hvv⟩ := asrc_sound hm hv hsrc (Nat.le_refl _)
            obtain ⟨ns, hns, hbs⟩ := bytesOf_ints hb
            have hll : l' = l := bytes_same (by rw [hnl, hl']) hvv hns
            cases hv with
            | lit hl => simp [lit2, lit1, lit0] at hl
            | slice hx hc =>
              refine ⟨_, w, ρ, ?_, .lit rfl, hm, Ext.refl' _ hm.dom⟩
              rw [run_convert_bytes_string w src dst e _ _ _ hs he hd]
              have hf0 := hfirst w.drawn
              simp only [Builtin.firstCells, Nat.mul_one] at hf0
              rw [hll, hns] at hf0
              rw [run_bytesToString w _ n0 _ ns hf0, foldl_push]
              simp [hbs]
          · cases h
        · cases h
      · cases h
    · cases h
  · rename_i s
    split at h
    · rename_i d e hs hd
      split at h
      · rename_i z he hz
        cases h
        have := hv.eq_of_lit2 rfl; subst this
        obtain ⟨i, hi, hsz, _, _⟩ := zero1_info hz
        let q : Question := .appendCap s.size 0 e
        let cap := q.cut (w.tape w.drawn q)
        have hcap : s.size ≤ cap := by simp [cap, q, Question.cut]
        let cells : Array Value := (s.data.map fun b => Value.int .u8 (b.toNat : Int)) ++ Array.replicate (cap - s.size) (Value.int .u8 0)
        have hcs : cells.size = cap := by simp only [cells, Array.size_append, Array.size_map, Array.size_replicate]; have : s.data.size = s.size := rfl; omega
        have hal := (hm.drawn (w.drawn + 1)).alloc (e := e) (cs := s.data.toList.map fun b => .int .u8 (b.toNat : Int)) (c := cells) (s := 1) (ro := false) (cells.size, cells.size + 1)
          (fun _ j hj hh => by simp at hh; omega) (by rw [hi]; simp [hsz]) (by rw [hcs]; simp; exact hcap) (fun j y hy => by
            rw [List.getElem?_map] at hy
            cases hq : s.data.toList[j]? with
            | none => rw [hq] at hy; cases hy
            | some b =>
              rw [hq] at hy
              simp at hy
              subst hy
              have hj : j < s.data.size := by simpa using (List.getElem?_eq_some_iff.1 hq).1
              refine ⟨.int .u8 (b.toNat : Int), ?_, .lit rfl⟩
              simp only [cells]
              rw [Array.getElem?_append_left (by simpa using hj), Array.getElem?_map]
              have : s.data[j]? = some b := by simpa using hq
              rw [this]; rfl)
        refine ⟨.slice (some ⟨w.heap.size, 0, none⟩) s.size cap, _, _, ?_, ?_, hal.1, ?_⟩
        · have hrun : (Conv.stringToBytes e s).run P w = .ok (.slice (some ⟨w.heap.size, 0, none⟩) s.size cap) (World.freeze (({ w with drawn := w.drawn + 1 } : World).alloc (.cells cells e)) ⟨w.heap.size, cells.size, none⟩ 1) := by
            simp only [Conv.stringToBytes, Sem.run_bind, run_choose, Question.forced, Bool.false_eq_true, if_false, Result.andThen_ok, newRow, run_newObj, Sem.run_pure, markStringish, run_shape]
            have hsh : World.shape? ({ w with drawn := w.drawn + 1, heap := w.heap.push (.cells cells e) } : World) w.heap.size = some (e, cells.size) := by simp [World.shape?]
            rw [show ({ w with drawn := w.drawn + 1, heap := w.heap.push (.cells ((s.data.map fun b => Value.int .u8 (b.toNat : Int)) ++ Array.replicate (q.cut (w.tape w.drawn q) - s.size) (Value.int .u8 0)) e) } : World).shape? w.heap.size = some (e, cells.size) from hsh]
            simp only [run_freeze, Result.andThen_ok]
            rfl
          have hfz : World.freeze (({ w with drawn := w.drawn + 1 } : World).alloc (.cells cells e)) ⟨w.heap.size, cells.size, none⟩ 1 = ({ w with drawn := w.drawn + 1 } : World).alloc (.cells cells e (cells.size, cells.size + 1)) := by
            simp only [World.freeze, World.alloc]
            rw [if_neg (by omega)]
            congr 1
            apply Array.ext
            · simp
            · intro j h1 h2
              simp only [Array.getElem_modify, Array.getElem_push]
              split
              · rename_i hj
                subst hj
                simp
              · rename_i hj
                simp at h1
                rw [dif_pos (by omega), dif_pos (by omega)]
          have hsd : P.underlying src = some d := hs
          simp only [convert, Sem.run_bind, run_underlying hsd, run_underlying hd, Result.andThen_ok]
          rw [← hfz]
          cases d <;> simp [run_underlying he, hrun]
        · refine VR.slice (x := ⟨w.heap.size, cells.size, 1⟩) (by simp [Ren.put]) (.inr ⟨by simpa using hcap, by simp [hcs]⟩)
        · exact ⟨hal.2.le, hal.2.same, hal.2.len, hal.2.fresh, hal.2.os, hal.2.tape, hal.2.output, hal.2.size, hal.2.kept, hal.2.own⟩
      · cases h
    · cases h
  · cases h

end
end Go.Am
