import Derived.Test.YtcnhakfmnkegcaaDoorGrFieldParses31
import Derived.Test.YtcnhakfmnkegcaaDoorGrFieldParses34
set_option linter.unusedSimpArgs false
set_option linter.unusedVariables false
set_option maxRecDepth 100000
namespace Go.Am.Seat
open Go.Proofs Go.Am Go.Am.Num
set_option maxRecDepth 1000000
def aw1F:Fact:=⟨55,[],.bool true⟩
theorem aw1_run:ansIs aw1F.v (runK E mem5 [] 1999 aw1F.g aw1F.args mem5)=true:=by kernel_rfl
theorem aw1:aw1F.holds E.P mem5:=fact_of_run envOK (fun F h=>absurd h List.not_mem_nil) 1999 aw1F rfl (by kernel_rfl) rfl (by kernel_rfl) aw1_run
def fdecF:Fact:=⟨35,[decText],.agg ⟨int64s [1,0,0,0]⟩⟩
theorem fdec:fdecF.holds E.P mem5:=fact_of_run envOK (K:=[decF]) (fun F h=>by rw [List.mem_singleton.1 h]; exact dec_ok) 100 fdecF rfl (by kernel_rfl) rfl (by kernel_rfl) (by kernel_rfl)
theorem noF_nil:NoF []:=fun _ _=>rfl
def half:Nat:=28948022309329048855892746252171976963317496166410141009864396001978282409975
theorem pw_pm (X e f:Nat) (h:e<2^f):pw X e=pm P25519 X f e:=(pm_eq P25519 X f e h).symm
theorem pm_half:pm P25519 2 255 (P25519-2)=half:=by decide +kernel
theorem pw_half:pw 2 (P25519-2)=half:=(pw_pm 2 (P25519-2) 255 (by decide)).trans pm_half
def ivF:Fact:=⟨54,[.agg ⟨int64s [2,0,0,0]⟩],.agg ⟨int64s [18446744073709551607,18446744073709551615,18446744073709551615,4611686018427387903]⟩⟩
theorem el2:el 2=.agg ⟨int64s [2,0,0,0]⟩:=by kernel_rfl
theorem elh:el half=.agg ⟨int64s [18446744073709551607,18446744073709551615,18446744073709551615,4611686018427387903]⟩:=by kernel_rfl
theorem iv_run:∃ m',runK E mem5 [] 1101 54 [el 2] mem5=some (el half,m'):=by
 rw [rk noF_nil (by decide),←pw_half]
 exact iv_body (by decide) (Nat.le_of_ble_eq_true rfl) (L_sq (n:=1096) noF_nil (by omega)) (L_mul (n:=1097) noF_nil (by omega)) (L_ss (n:=1095) noF_nil (by omega)) (L_on (n:=1094) noF_nil (by omega) 2 (by decide))
theorem iv_ok:ivF.holds E.P mem5:=fact_of_run envOK (fun F h=>absurd h List.not_mem_nil) 1101 ivF rfl (by kernel_rfl) rfl (by kernel_rfl) (by
 obtain ⟨m',h⟩:=iv_run
 rw [el2,elh] at h
 show ansIs _ (runK E mem5 [] 1101 54 [.agg ⟨int64s [2,0,0,0]⟩] mem5)=true
 rw [h]
 kernel_rfl)
def K5:List Fact:=[aw1F,fdecF,ivF]
theorem K5_hold:∀ F,F∈K5→F.holds E.P mem5:=by
 intro F h
 simp only [K5,List.mem_cons,List.not_mem_nil,or_false] at h
 rcases h with rfl | rfl | rfl
 ·exact aw1
 ·exact fdec
 ·exact iv_ok
def awakeF5:Fact:=⟨30,[],.bool true⟩
theorem awake05_run:ansIs awakeF5.v (runK E mem5 K5 100 awakeF5.g awakeF5.args mem5)=true:=by kernel_rfl
theorem awake05:awakeF5.holds E.P mem5:=fact_of_run envOK K5_hold 100 awakeF5 rfl (by kernel_rfl) rfl (by kernel_rfl) awake05_run
end Go.Am.Seat
