import Derived.Test.YtcnhakfmnkegcaaDoorGrFieldParses9
import Derived.Test.YtcnhakfmnkegcaaDoorGrFieldParses8
set_option linter.unusedSimpArgs false
set_option linter.unusedVariables false
set_option maxRecDepth 100000
namespace Go.Am.Seat
open Go.Proofs Go.Am
set_option maxRecDepth 1000000
def mwF (a:List Int) (d:Int) (b:List Int):Fact:=⟨49,[.agg ⟨int64s a⟩,.int .u64 10,.int .u64 d],.tuple ⟨[.agg ⟨int64s b⟩,.int .u64 0]⟩⟩
def ansIsT (v:Value):Option (Value×Mem)→Bool
 | some (.tuple c,_)=>(match v with
  | .tuple c'=>lit2 (.tuple c)&&eqL eqV c.toList c'.toList
  | _=>false)
 | _=>false
theorem fact_of_runT {E:Env} (hE:EnvOK E) {M:Mem} {K:List Fact} (hK:∀ F,F∈K→F.holds E.P M) (n:Nat) (F:Fact) (hlen:M.length=E.G) (htab:eqM (M.map onlyTab) M=true) (hargs:F.args.all lit2=true) (hfast:(E.fast F.g).isNone=true)
  (h:ansIsT F.v (runK E M K n F.g F.args M)=true):F.holds E.P M:=by
 have hs:=ainv_sound hE.globals hE.fast (runK_sound hE hK n)
 have ht:(M.take E.G).map onlyTab=M:=by rw [List.take_of_length_le (by omega)]; exact eqM_sound htab
 refine hs F.g F.args M F.v M ?_
 unfold ainv
 rw [if_pos hargs,ht]
 have hf:E.fast F.g=none:=by simpa using hfast
 rw [hf]
 unfold ansIsT at h
 split at h
 ·rename_i c m1 hr
  split at h
  ·rename_i c' hv
   simp only [Bool.and_eq_true] at h
   rw [hr]
   simp only
   have he:=eqL_sound (fun _ _=>eqV_sound) h.2
   have hc:c=c':=by
    obtain ⟨l⟩:=c
    obtain ⟨l'⟩:=c'
    simp only at he
    rw [he]
   unfold acoll
   rw [if_pos h.1,hv,hc]
  ·cases h
 ·cases h
theorem mw_of (F:Fact) (h1:F.args.all lit2=true) (h2:(E.fast F.g).isNone=true) (h:ansIsT F.v (runK E mem5 [] 40 F.g F.args mem5)=true):F.holds E.P mem5:=fact_of_runT envOK (fun F h=>absurd h List.not_mem_nil) 40 F rfl (by kernel_rfl) h1 h2 h
def mw0:Fact:=mwF [0,0,0,0,0,0,0,0] 5 [5,0,0,0,0,0,0,0]
theorem mw0_ok:mw0.holds E.P mem5:=mw_of mw0 rfl (by kernel_rfl) (by kernel_rfl)
def mw1:Fact:=mwF [5,0,0,0,0,0,0,0] 7 [57,0,0,0,0,0,0,0]
theorem mw1_ok:mw1.holds E.P mem5:=mw_of mw1 rfl (by kernel_rfl) (by kernel_rfl)
def mw2:Fact:=mwF [57,0,0,0,0,0,0,0] 8 [578,0,0,0,0,0,0,0]
theorem mw2_ok:mw2.holds E.P mem5:=mw_of mw2 rfl (by kernel_rfl) (by kernel_rfl)
def mw3:Fact:=mwF [578,0,0,0,0,0,0,0] 9 [5789,0,0,0,0,0,0,0]
theorem mw3_ok:mw3.holds E.P mem5:=mw_of mw3 rfl (by kernel_rfl) (by kernel_rfl)
def mw4:Fact:=mwF [5789,0,0,0,0,0,0,0] 6 [57896,0,0,0,0,0,0,0]
theorem mw4_ok:mw4.holds E.P mem5:=mw_of mw4 rfl (by kernel_rfl) (by kernel_rfl)
def mw5:Fact:=mwF [57896,0,0,0,0,0,0,0] 0 [578960,0,0,0,0,0,0,0]
theorem mw5_ok:mw5.holds E.P mem5:=mw_of mw5 rfl (by kernel_rfl) (by kernel_rfl)
def mw6:Fact:=mwF [578960,0,0,0,0,0,0,0] 4 [5789604,0,0,0,0,0,0,0]
theorem mw6_ok:mw6.holds E.P mem5:=mw_of mw6 rfl (by kernel_rfl) (by kernel_rfl)
def mw7:Fact:=mwF [5789604,0,0,0,0,0,0,0] 4 [57896044,0,0,0,0,0,0,0]
theorem mw7_ok:mw7.holds E.P mem5:=mw_of mw7 rfl (by kernel_rfl) (by kernel_rfl)
def mw8:Fact:=mwF [57896044,0,0,0,0,0,0,0] 6 [578960446,0,0,0,0,0,0,0]
theorem mw8_ok:mw8.holds E.P mem5:=mw_of mw8 rfl (by kernel_rfl) (by kernel_rfl)
def mw9:Fact:=mwF [578960446,0,0,0,0,0,0,0] 1 [5789604461,0,0,0,0,0,0,0]
theorem mw9_ok:mw9.holds E.P mem5:=mw_of mw9 rfl (by kernel_rfl) (by kernel_rfl)
def mw10:Fact:=mwF [5789604461,0,0,0,0,0,0,0] 8 [57896044618,0,0,0,0,0,0,0]
theorem mw10_ok:mw10.holds E.P mem5:=mw_of mw10 rfl (by kernel_rfl) (by kernel_rfl)
def mw11:Fact:=mwF [57896044618,0,0,0,0,0,0,0] 6 [578960446186,0,0,0,0,0,0,0]
theorem mw11_ok:mw11.holds E.P mem5:=mw_of mw11 rfl (by kernel_rfl) (by kernel_rfl)
def mw12:Fact:=mwF [578960446186,0,0,0,0,0,0,0] 5 [5789604461865,0,0,0,0,0,0,0]
theorem mw12_ok:mw12.holds E.P mem5:=mw_of mw12 rfl (by kernel_rfl) (by kernel_rfl)
def mw13:Fact:=mwF [5789604461865,0,0,0,0,0,0,0] 8 [57896044618658,0,0,0,0,0,0,0]
theorem mw13_ok:mw13.holds E.P mem5:=mw_of mw13 rfl (by kernel_rfl) (by kernel_rfl)
def mw14:Fact:=mwF [57896044618658,0,0,0,0,0,0,0] 0 [578960446186580,0,0,0,0,0,0,0]
theorem mw14_ok:mw14.holds E.P mem5:=mw_of mw14 rfl (by kernel_rfl) (by kernel_rfl)
def mw15:Fact:=mwF [578960446186580,0,0,0,0,0,0,0] 9 [5789604461865809,0,0,0,0,0,0,0]
theorem mw15_ok:mw15.holds E.P mem5:=mw_of mw15 rfl (by kernel_rfl) (by kernel_rfl)
def mw16:Fact:=mwF [5789604461865809,0,0,0,0,0,0,0] 7 [57896044618658097,0,0,0,0,0,0,0]
theorem mw16_ok:mw16.holds E.P mem5:=mw_of mw16 rfl (by kernel_rfl) (by kernel_rfl)
def mw17:Fact:=mwF [57896044618658097,0,0,0,0,0,0,0] 7 [578960446186580977,0,0,0,0,0,0,0]
theorem mw17_ok:mw17.holds E.P mem5:=mw_of mw17 rfl (by kernel_rfl) (by kernel_rfl)
def mw18:Fact:=mwF [578960446186580977,0,0,0,0,0,0,0] 1 [5789604461865809771,0,0,0,0,0,0,0]
theorem mw18_ok:mw18.holds E.P mem5:=mw_of mw18 rfl (by kernel_rfl) (by kernel_rfl)
def mw19:Fact:=mwF [5789604461865809771,0,0,0,0,0,0,0] 1 [2555812397529442863,3,0,0,0,0,0,0]
theorem mw19_ok:mw19.holds E.P mem5:=mw_of mw19 rfl (by kernel_rfl) (by kernel_rfl)
def mw20:Fact:=mwF [2555812397529442863,3,0,0,0,0,0,0] 7 [7111379901584877021,31,0,0,0,0,0,0]
theorem mw20_ok:mw20.holds E.P mem5:=mw_of mw20 rfl (by kernel_rfl) (by kernel_rfl)
def mw21:Fact:=mwF [7111379901584877021,31,0,0,0,0,0,0] 8 [15773566794720115370,313,0,0,0,0,0,0]
theorem mw21_ok:mw21.holds E.P mem5:=mw_of mw21 rfl (by kernel_rfl) (by kernel_rfl)
def mw22:Fact:=mwF [15773566794720115370,313,0,0,0,0,0,0] 5 [10161715357524740777,3138,0,0,0,0,0,0]
theorem mw22_ok:mw22.holds E.P mem5:=mw_of mw22 rfl (by kernel_rfl) (by kernel_rfl)
def mw23:Fact:=mwF [10161715357524740777,3138,0,0,0,0,0,0] 4 [9383433206699649694,31385,0,0,0,0,0,0]
theorem mw23_ok:mw23.holds E.P mem5:=mw_of mw23 rfl (by kernel_rfl) (by kernel_rfl)
def mw24:Fact:=mwF [9383433206699649694,31385,0,0,0,0,0,0] 9 [1600611698448738869,313855,0,0,0,0,0,0]
theorem mw24_ok:mw24.holds E.P mem5:=mw_of mw24 rfl (by kernel_rfl) (by kernel_rfl)
def mw25:Fact:=mwF [1600611698448738869,313855,0,0,0,0,0,0] 2 [16006116984487388692,3138550,0,0,0,0,0,0]
theorem mw25_ok:mw25.holds E.P mem5:=mw_of mw25 rfl (by kernel_rfl) (by kernel_rfl)
def mw26:Fact:=mwF [16006116984487388692,3138550,0,0,0,0,0,0] 5 [12487217255197473997,31385508,0,0,0,0,0,0]
theorem mw26_ok:mw26.holds E.P mem5:=mw_of mw26 rfl (by kernel_rfl) (by kernel_rfl)
def mw27:Fact:=mwF [12487217255197473997,31385508,0,0,0,0,0,0] 0 [14191708109717430274,313855086,0,0,0,0,0,0]
theorem mw27_ok:mw27.holds E.P mem5:=mw_of mw27 rfl (by kernel_rfl) (by kernel_rfl)
def mw28:Fact:=mwF [14191708109717430274,313855086,0,0,0,0,0,0] 4 [12789872581207441432,3138550867,0,0,0,0,0,0]
theorem mw28_ok:mw28.holds E.P mem5:=mw_of mw28 rfl (by kernel_rfl) (by kernel_rfl)
def mw29:Fact:=mwF [12789872581207441432,3138550867,0,0,0,0,0,0] 3 [17218261369817104627,31385508676,0,0,0,0,0,0]
theorem mw29_ok:mw29.holds E.P mem5:=mw_of mw29 rfl (by kernel_rfl) (by kernel_rfl)
def mw30:Fact:=mwF [17218261369817104627,31385508676,0,0,0,0,0,0] 4 [6161917034785081730,313855086769,0,0,0,0,0,0]
theorem mw30_ok:mw30.holds E.P mem5:=mw_of mw30 rfl (by kernel_rfl) (by kernel_rfl)
def mw31:Fact:=mwF [6161917034785081730,313855086769,0,0,0,0,0,0] 3 [6278938126722162455,3138550867693,0,0,0,0,0,0]
theorem mw31_ok:mw31.holds E.P mem5:=mw_of mw31 rfl (by kernel_rfl) (by kernel_rfl)
def mw32:Fact:=mwF [6278938126722162455,3138550867693,0,0,0,0,0,0] 9 [7449149046092969711,31385508676933,0,0,0,0,0,0]
theorem mw32_ok:mw32.holds E.P mem5:=mw_of mw32 rfl (by kernel_rfl) (by kernel_rfl)
def mw33:Fact:=mwF [7449149046092969711,31385508676933,0,0,0,0,0,0] 5 [704514166091490651,313855086769334,0,0,0,0,0,0]
theorem mw33_ok:mw33.holds E.P mem5:=mw_of mw33 rfl (by kernel_rfl) (by kernel_rfl)
def mw34:Fact:=mwF [704514166091490651,313855086769334,0,0,0,0,0,0] 3 [7045141660914906513,3138550867693340,0,0,0,0,0,0]
theorem mw34_ok:mw34.holds E.P mem5:=mw_of mw34 rfl (by kernel_rfl) (by kernel_rfl)
def mw35:Fact:=mwF [7045141660914906513,3138550867693340,0,0,0,0,0,0] 9 [15111184388020410291,31385508676933403,0,0,0,0,0,0]
theorem mw35_ok:mw35.holds E.P mem5:=mw_of mw35 rfl (by kernel_rfl) (by kernel_rfl)
def mw36:Fact:=mwF [15111184388020410291,31385508676933403,0,0,0,0,0,0] 2 [3537891290527689984,313855086769334038,0,0,0,0,0,0]
theorem mw36_ok:mw36.holds E.P mem5:=mw_of mw36 rfl (by kernel_rfl) (by kernel_rfl)
def mw37:Fact:=mwF [3537891290527689984,313855086769334038,0,0,0,0,0,0] 6 [16932168831567348230,3138550867693340381,0,0,0,0,0,0]
theorem mw37_ok:mw37.holds E.P mem5:=mw_of mw37 rfl (by kernel_rfl) (by kernel_rfl)
def mw38:Fact:=mwF [16932168831567348230,3138550867693340381,0,0,0,0,0,0] 6 [3300991652287517762,12938764603223852203,1,0,0,0,0,0]
theorem mw38_ok:mw38.holds E.P mem5:=mw_of mw38 rfl (by kernel_rfl) (by kernel_rfl)
def mw39:Fact:=mwF [3300991652287517762,12938764603223852203,1,0,0,0,0,0] 3 [14563172449165626007,260437516271660719,17,0,0,0,0,0]
theorem mw39_ok:mw39.holds E.P mem5:=mw_of mw39 rfl (by kernel_rfl) (by kernel_rfl)
def mw40:Fact:=mwF [14563172449165626007,260437516271660719,17,0,0,0,0,0] 4 [16504515975689398762,2604375162716607197,170,0,0,0,0,0]
theorem mw40_ok:mw40.holds E.P mem5:=mw_of mw40 rfl (by kernel_rfl) (by kernel_rfl)
def mw41:Fact:=mwF [16504515975689398762,2604375162716607197,170,0,0,0,0,0] 9 [17471207167217574701,7597007553456520362,1701,0,0,0,0,0]
theorem mw41_ok:mw41.holds E.P mem5:=mw_of mw41 rfl (by kernel_rfl) (by kernel_rfl)
def mw42:Fact:=mwF [17471207167217574701,7597007553456520362,1701,0,0,0,0,0] 9 [8691375008789782475,2183099239726997165,17014,0,0,0,0,0]
theorem mw42_ok:mw42.holds E.P mem5:=mw_of mw42 rfl (by kernel_rfl) (by kernel_rfl)
def mw43:Fact:=mwF [8691375008789782475,2183099239726997165,17014,0,0,0,0,0] 2 [13126773793059618288,3384248323560420038,170141,0,0,0,0,0]
theorem mw43_ok:mw43.holds E.P mem5:=mw_of mw43 rfl (by kernel_rfl) (by kernel_rfl)
def mw44:Fact:=mwF [13126773793059618288,3384248323560420038,170141,0,0,0,0,0] 3 [2140529414629321571,15395739161894648771,1701411,0,0,0,0,0]
theorem mw44_ok:mw44.holds E.P mem5:=mw_of mw44 rfl (by kernel_rfl) (by kernel_rfl)
def mw45:Fact:=mwF [2140529414629321571,15395739161894648771,1701411,0,0,0,0,0] 3 [2958550072583664097,6383439029270074783,17014118,0,0,0,0,0]
theorem mw45_ok:mw45.holds E.P mem5:=mw_of mw45 rfl (by kernel_rfl) (by kernel_rfl)
def mw46:Fact:=mwF [2958550072583664097,6383439029270074783,17014118,0,0,0,0,0] 2 [11138756652127089356,8494158071572092983,170141183,0,0,0,0,0]
theorem mw46_ok:mw46.holds E.P mem5:=mw_of mw46 rfl (by kernel_rfl) (by kernel_rfl)
def mw47:Fact:=mwF [11138756652127089356,8494158071572092983,170141183,0,0,0,0,0] 8 [707102079013583872,11154604420882723372,1701411834,0,0,0,0,0]
theorem mw47_ok:mw47.holds E.P mem5:=mw_of mw47 rfl (by kernel_rfl) (by kernel_rfl)
def mw48:Fact:=mwF [707102079013583872,11154604420882723372,1701411834,0,0,0,0,0] 2 [7071020790135838722,865579766569924024,17014118346,0,0,0,0,0]
theorem mw48_ok:mw48.holds E.P mem5:=mw_of mw48 rfl (by kernel_rfl) (by kernel_rfl)
def mw49:Fact:=mwF [7071020790135838722,865579766569924024,17014118346,0,0,0,0,0] 0 [15369975680229732372,8655797665699240243,170141183460,0,0,0,0,0]
theorem mw49_ok:mw49.holds E.P mem5:=mw_of mw49 rfl (by kernel_rfl) (by kernel_rfl)
def mw50:Fact:=mwF [15369975680229732372,8655797665699240243,170141183460,0,0,0,0,0] 2 [6125804212620910794,12771000362154195974,1701411834604,0,0,0,0,0]
theorem mw50_ok:mw50.holds E.P mem5:=mw_of mw50 rfl (by kernel_rfl) (by kernel_rfl)
def mw51:Fact:=mwF [6125804212620910794,12771000362154195974,1701411834604,0,0,0,0,0] 8 [5917809905080453100,17029539179284650047,17014118346046,0,0,0,0,0]
theorem mw51_ok:mw51.holds E.P mem5:=mw_of mw51 rfl (by kernel_rfl) (by kernel_rfl)
def mw52:Fact:=mwF [5917809905080453100,17029539179284650047,17014118346046,0,0,0,0,0] 2 [3837866829675876154,4274695129460535929,170141183460469,0,0,0,0,0]
theorem mw52_ok:mw52.holds E.P mem5:=mw_of mw52 rfl (by kernel_rfl) (by kernel_rfl)
def mw53:Fact:=mwF [3837866829675876154,4274695129460535929,170141183460469,0,0,0,0,0] 0 [1485180149339658308,5853463147186256060,1701411834604692,0,0,0,0,0]
theorem mw53_ok:mw53.holds E.P mem5:=mw_of mw53 rfl (by kernel_rfl) (by kernel_rfl)
def mw54:Fact:=mwF [1485180149339658308,5853463147186256060,1701411834604692,0,0,0,0,0] 1 [14851801493396583081,3194399250733905752,17014118346046923,0,0,0,0,0]
theorem mw54_ok:mw54.holds E.P mem5:=mw_of mw54 rfl (by kernel_rfl) (by kernel_rfl)
def mw55:Fact:=mwF [14851801493396583081,3194399250733905752,17014118346046923,0,0,0,0,0] 9 [944062344289417891,13497248433629505912,170141183460469231,0,0,0,0,0]
theorem mw55_ok:mw55.holds E.P mem5:=mw_of mw55 rfl (by kernel_rfl) (by kernel_rfl)
def mw56:Fact:=mwF [944062344289417891,13497248433629505912,170141183460469231,0,0,0,0,0] 7 [9440623442894178917,5845275820328197808,1701411834604692317,0,0,0,0,0]
theorem mw56_ok:mw56.holds E.P mem5:=mw_of mw56 rfl (by kernel_rfl) (by kernel_rfl)
def mw57:Fact:=mwF [9440623442894178917,5845275820328197808,1701411834604692317,0,0,0,0,0] 2 [2172514060394031092,3112525982153323237,17014118346046923173,0,0,0,0,0]
theorem mw57_ok:mw57.holds E.P mem5:=mw_of mw57 rfl (by kernel_rfl) (by kernel_rfl)
def mw58:Fact:=mwF [2172514060394031092,3112525982153323237,17014118346046923173,0,0,0,0,0] 8 [3278396530230759312,12678515747823680755,4120486797083267187,9,0,0,0,0]
theorem mw58_ok:mw58.holds E.P mem5:=mw_of mw58 rfl (by kernel_rfl) (by kernel_rfl)
def mw59:Fact:=mwF [3278396530230759312,12678515747823680755,4120486797083267187,9,0,0,0,0] 7 [14337221228598041511,16104693035979497855,4311379823413568644,92,0,0,0,0]
theorem mw59_ok:mw59.holds E.P mem5:=mw_of mw59 rfl (by kernel_rfl) (by kernel_rfl)
def mw60:Fact:=mwF [14337221228598041511,16104693035979497855,4311379823413568644,92,0,0,0,0] 9 [14245003770013553807,13472977770118565629,6220310086716583216,922,0,0,0,0]
theorem mw60_ok:mw60.holds E.P mem5:=mw_of mw60 rfl (by kernel_rfl) (by kernel_rfl)
def mw61:Fact:=mwF [14245003770013553807,13472977770118565629,6220310086716583216,922,0,0,0,0] 2 [13322829184168676760,5602569185218794985,6862868646037177319,9223,0,0,0,0]
theorem mw61_ok:mw61.holds E.P mem5:=mw_of mw61 rfl (by kernel_rfl) (by kernel_rfl)
def mw62:Fact:=mwF [13322829184168676760,5602569185218794985,6862868646037177319,9223,0,0,0,0] 0 [4101083325719906288,685459631059295009,13288454239243118345,92233,0,0,0,0]
theorem mw62_ok:mw62.holds E.P mem5:=mw_of mw62 rfl (by kernel_rfl) (by kernel_rfl)
def mw63:Fact:=mwF [4101083325719906288,685459631059295009,13288454239243118345,92233,0,0,0,0] 0 [4117345109779959648,6854596310592950092,3757333876464322138,922337,0,0,0,0]
theorem mw63_ok:mw63.holds E.P mem5:=mw_of mw63 rfl (by kernel_rfl) (by kernel_rfl)
def mw64:Fact:=mwF [4117345109779959648,6854596310592950092,3757333876464322138,922337,0,0,0,0] 3 [4279962950380493251,13205730884800846074,679850617224118151,9223372,0,0,0,0]
theorem mw64_ok:mw64.holds E.P mem5:=mw_of mw64 rfl (by kernel_rfl) (by kernel_rfl)
def mw65:Fact:=mwF [4279962950380493251,13205730884800846074,679850617224118151,9223372,0,0,0,0] 9 [5906141356385829287,2930100332041599430,6798506172241181517,92233720,0,0,0,0]
theorem mw65_ok:mw65.holds E.P mem5:=mw_of mw65 rfl (by kernel_rfl) (by kernel_rfl)
def mw66:Fact:=mwF [5906141356385829287,2930100332041599430,6798506172241181517,92233720,0,0,0,0] 5 [3721181342729638027,10854259246706442687,12644829501283160323,922337203,0,0,0,0]
theorem mw66_ok:mw66.holds E.P mem5:=mw_of mw66 rfl (by kernel_rfl) (by kernel_rfl)
def mw67:Fact:=mwF [3721181342729638027,10854259246706442687,12644829501283160323,922337203,0,0,0,0] 6 [318325279877277044,16308872098516668792,15767830570574293539,9223372036,0,0,0,0]
theorem mw67_ok:mw67.holds E.P mem5:=mw_of mw67 rfl (by kernel_rfl) (by kernel_rfl)
def mw68:Fact:=mwF [318325279877277044,16308872098516668792,15767830570574293539,9223372036,0,0,0,0] 5 [3183252798772770445,15514768395490274992,10104353116066522470,92233720368,0,0,0,0]
theorem mw68_ok:mw68.holds E.P mem5:=mw_of mw68 rfl (by kernel_rfl) (by kernel_rfl)
def mw69:Fact:=mwF [3183252798772770445,15514768395490274992,10104353116066522470,92233720368,0,0,0,0] 6 [13385783914018152840,7573731365226336993,8809810792117466628,922337203685,0,0,0,0]
theorem mw69_ok:mw69.holds E.P mem5:=mw_of mw69 rfl (by kernel_rfl) (by kernel_rfl)
def mw70:Fact:=mwF [13385783914018152840,7573731365226336993,8809810792117466628,922337203685,0,0,0,0] 4 [4730630624214667092,1950337357425163473,14311131626336459820,9223372036854,0,0,0,0]
theorem mw70_ok:mw70.holds E.P mem5:=mw_of mw70 rfl (by kernel_rfl) (by kernel_rfl)
def mw71:Fact:=mwF [4730630624214667092,1950337357425163473,14311131626336459820,9223372036854,0,0,0,0] 8 [10412818094727567696,1056629500542083116,13984107747397736889,92233720368547,0,0,0,0]
theorem mw71_ok:mw71.holds E.P mem5:=mw_of mw71 rfl (by kernel_rfl) (by kernel_rfl)
def mw72:Fact:=mwF [10412818094727567696,1056629500542083116,13984107747397736889,92233720368547,0,0,0,0] 1 [11894460578727918881,10566295005420831165,10713868958010507578,922337203685477,0,0,0,0]
theorem mw72_ok:mw72.holds E.P mem5:=mw_of mw72 rfl (by kernel_rfl) (by kernel_rfl)
def mw73:Fact:=mwF [11894460578727918881,10566295005420831165,10713868958010507578,922337203685477,0,0,0,0] 9 [8264141345021879123,13429229685660553576,14904969211557317705,9223372036854775,0,0,0,0]
theorem mw73_ok:mw73.holds E.P mem5:=mw_of mw73 rfl (by kernel_rfl) (by kernel_rfl)
def mw74:Fact:=mwF [8264141345021879123,13429229685660553576,14904969211557317705,9223372036854775,0,0,0,0] 9 [8854437155380584775,5165088340638674452,1475739525896764129,92233720368547758,0,0,0,0]
theorem mw74_ok:mw74.holds E.P mem5:=mw_of mw74 rfl (by kernel_rfl) (by kernel_rfl)
def mw75:Fact:=mwF [8854437155380584775,5165088340638674452,1475739525896764129,92233720368547758,0,0,0,0] 5 [14757395258967641291,14757395258967641292,14757395258967641292,922337203685477580,0,0,0,0]
theorem mw75_ok:mw75.holds E.P mem5:=mw_of mw75 rfl (by kernel_rfl) (by kernel_rfl)
def mw76:Fact:=mwF [14757395258967641291,14757395258967641292,14757395258967641292,922337203685477580,0,0,0,0] 0 [18446744073709551598,18446744073709551615,18446744073709551615,9223372036854775807,0,0,0,0]
theorem mw76_ok:mw76.holds E.P mem5:=mw_of mw76 rfl (by kernel_rfl) (by kernel_rfl)
def mws:List Fact:=[mw0,mw1,mw2,mw3,mw4,mw5,mw6,mw7,mw8,mw9,mw10,mw11,mw12,mw13,mw14,mw15,mw16,mw17,mw18,mw19,mw20,mw21,mw22,mw23,mw24,mw25,mw26,mw27,mw28,mw29,mw30,mw31,mw32,mw33,mw34,mw35,mw36,mw37,mw38,mw39,mw40,mw41,mw42,mw43,mw44,mw45,mw46,mw47,mw48,mw49,mw50,mw51,mw52,mw53,mw54,mw55,mw56,mw57,mw58,mw59,mw60,mw61,mw62,mw63,mw64,mw65,mw66,mw67,mw68,mw69,mw70,mw71,mw72,mw73,mw74,mw75,mw76]
theorem mws_ok:∀ F,F∈mws→F.holds E.P mem5:=by
 intro F h
 simp only [mws,List.mem_cons,List.not_mem_nil,or_false] at h
 rcases h with rfl | rfl | rfl | rfl | rfl | rfl | rfl | rfl | rfl | rfl | rfl | rfl | rfl | rfl | rfl | rfl | rfl | rfl | rfl | rfl | rfl | rfl | rfl | rfl | rfl | rfl | rfl | rfl | rfl | rfl | rfl | rfl | rfl | rfl | rfl | rfl | rfl | rfl | rfl | rfl | rfl | rfl | rfl | rfl | rfl | rfl | rfl | rfl | rfl | rfl | rfl | rfl | rfl | rfl | rfl | rfl | rfl | rfl | rfl | rfl | rfl | rfl | rfl | rfl | rfl | rfl | rfl | rfl | rfl | rfl | rfl | rfl | rfl | rfl | rfl | rfl | rfl
 ·exact mw0_ok
 ·exact mw1_ok
 ·exact mw2_ok
 ·exact mw3_ok
 ·exact mw4_ok
 ·exact mw5_ok
 ·exact mw6_ok
 ·exact mw7_ok
 ·exact mw8_ok
 ·exact mw9_ok
 ·exact mw10_ok
 ·exact mw11_ok
 ·exact mw12_ok
 ·exact mw13_ok
 ·exact mw14_ok
 ·exact mw15_ok
 ·exact mw16_ok
 ·exact mw17_ok
 ·exact mw18_ok
 ·exact mw19_ok
 ·exact mw20_ok
 ·exact mw21_ok
 ·exact mw22_ok
 ·exact mw23_ok
 ·exact mw24_ok
 ·exact mw25_ok
 ·exact mw26_ok
 ·exact mw27_ok
 ·exact mw28_ok
 ·exact mw29_ok
 ·exact mw30_ok
 ·exact mw31_ok
 ·exact mw32_ok
 ·exact mw33_ok
 ·exact mw34_ok
 ·exact mw35_ok
 ·exact mw36_ok
 ·exact mw37_ok
 ·exact mw38_ok
 ·exact mw39_ok
 ·exact mw40_ok
 ·exact mw41_ok
 ·exact mw42_ok
 ·exact mw43_ok
 ·exact mw44_ok
 ·exact mw45_ok
 ·exact mw46_ok
 ·exact mw47_ok
 ·exact mw48_ok
 ·exact mw49_ok
 ·exact mw50_ok
 ·exact mw51_ok
 ·exact mw52_ok
 ·exact mw53_ok
 ·exact mw54_ok
 ·exact mw55_ok
 ·exact mw56_ok
 ·exact mw57_ok
 ·exact mw58_ok
 ·exact mw59_ok
 ·exact mw60_ok
 ·exact mw61_ok
 ·exact mw62_ok
 ·exact mw63_ok
 ·exact mw64_ok
 ·exact mw65_ok
 ·exact mw66_ok
 ·exact mw67_ok
 ·exact mw68_ok
 ·exact mw69_ok
 ·exact mw70_ok
 ·exact mw71_ok
 ·exact mw72_ok
 ·exact mw73_ok
 ·exact mw74_ok
 ·exact mw75_ok
 ·exact mw76_ok
def decText:Value:=.string ⟨#[53,55,56,57,54,48,52,52,54,49,56,54,53,56,48,57,55,55,49,49,55,56,53,52,57,50,53,48,52,51,52,51,57,53,51,57,50,54,54,51,52,57,57,50,51,51,50,56,50,48,50,56,50,48,49,57,55,50,56,55,57,50,48,48,51,57,53,54,53,54,52,56,49,57,57,53,48]⟩
def decF:Fact:=⟨24,[decText],.tuple ⟨[.agg ⟨int64s [18446744073709551598,18446744073709551615,18446744073709551615,9223372036854775807,0,0,0,0]⟩,.int .i64 0]⟩⟩
theorem dec_ok:decF.holds E.P mem5:=fact_of_runT envOK mws_ok 200 decF rfl (by kernel_rfl) rfl (by kernel_rfl) (by kernel_rfl)
end Go.Am.Seat
