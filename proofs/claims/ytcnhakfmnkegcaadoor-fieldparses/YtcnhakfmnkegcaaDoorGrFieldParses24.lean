import Derived.Test.YtcnhakfmnkegcaaDoorGrFieldParses23
set_option linter.unusedSimpArgs false
set_option linter.unusedVariables false
noncomputable section
set_option maxRecDepth 100000
namespace Go.Am.Seat
open Go.Proofs Go.Am Go.Am.Num Go.Am.Kn
def CMs (self:Self):Prop:=∀ x y a c,x<18446744073709551616→y<18446744073709551616→a<18446744073709551616→c<18446744073709551616→Ans self 63 [U x,U y,U a,U c] (pair64 ((x*y+a+c)%18446744073709551616) ((x*y+a+c) / 18446744073709551616))
structure Oth (M m':Mem) (t:Nat) (R:Nat→Nat):Prop where
 o:∀ k,k≠t→m'[k]? = M[k]?
 t:m'[t]? = some (.row false 88 (rowK .u64 16 R))
theorem Oth.set {M m':Mem} {t k x:Nat} {R:Nat→Nat} (h:Oth M m' t R):Oth M (m'.set t (.row false 88 (rowK .u64 16 (putW R k x)))) t (putW R k x) where
 o:=fun j hj=>by rw [List.getElem?_set_ne (fun e=>hj e.symm)]; exact h.o j hj
 t:=by rw [List.getElem?_set_self (lt_of_at h.t)]
section
variable {self:Self} {nf:Nat} {m m' M:Mem} {F:Nat→Value} {p q r s t n u i j k c:Nat} {w v o R R0:Nat→Nat} {be be':TypeId}
end
theorem putW_lt {R:Nat→Nat} {k x:Nat} (h:∀ j,R j<18446744073709551616) (hx:x<18446744073709551616) (j:Nat):putW R k x j<18446744073709551616:=by
 unfold putW
 split
 ·exact hx
 ·exact h j
section
variable {self:Self} {nf:Nat} {m m' M:Mem} {F:Nat→Value} {p q r s t n u i j k c:Nat} {w v o R R0:Nat→Nat} {be be':TypeId}
end
end Go.Am.Seat
namespace Go.Am.Seat
open Go.Proofs Go.Am
def rwof_0:=opR Tryd.f29 [0]
def rwof_1:=opR Tryd.f29 [1,0]
theorem bodywof:Tryd.f29.body=some (.seq (.region 0 rwof_0 false) (.seq (.region 1 rwof_1 false) .ret)):=rfl
end Go.Am.Seat
