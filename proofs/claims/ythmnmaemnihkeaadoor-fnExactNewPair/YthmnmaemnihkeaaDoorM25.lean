/- Contracts of Go's library at this program, laid by the kit's own tool. -/
import Derived.Shelf.Strconv.Itoa0
import Derived.Shelf.Strconv.Itoa1
import Derived.Shelf.LaysM
import Derived.Shelf.Strconv.Itoa2
import Derived.Shelf.Strconv.Itoa3
import Derived.Shelf.Strconv.Itoa4
import Derived.Shelf.Strconv.Clone
import Derived.Shelf.Strings.Search1
import Derived.Shelf.Strings.Search2
import Derived.Shelf.Strings.Search3
import Derived.Shelf.Strings.Shaped
import Derived.Test.YthmnmaemnihkeaaDoorProg
import Derived.Test.YthmnmaemnihkeaaDoorM9
import Derived.Lib.AppendIntMem
import Derived.Test.YthmnmaemnihkeaaDoorM8
import Derived.Test.YthmnmaemnihkeaaDoorM24
namespace Go.Proofs
open Go.Shelf
def Tryd.laysM171_ren:Go.Shelf.Ren:=⟨fun|171=>56|243=>66|246=>67|283=>69|284=>70|285=>71|286=>72|129=>78|317=>77|318=>79|319=>80|320=>81|337=>84|338=>85|n=>n,fun|3=>3|9=>9|2=>2|4=>4|171=>101|0=>0|53=>102|37=>83|5=>5|173=>105|212=>111|51=>112|20=>20|213=>113|46=>109|232=>119|233=>120|n=>n,fun|17=>1|18=>2|19=>3|n=>n⟩
theorem Tryd.laysM171:Go.Proofs.LaysM.n171 Tryd.prog Tryd.laysM171_ren:={
 mixed:=by kernel_rfl
 f129:=Tryd.func78.trans (congrArg some (by kernel_rfl))
 f171:=Tryd.func56.trans (congrArg some (by kernel_rfl))
 f243:=Tryd.func66.trans (congrArg some (by kernel_rfl))
 f246:=Tryd.func67.trans (congrArg some (by kernel_rfl))
 f283:=Tryd.func69.trans (congrArg some (by kernel_rfl))
 f284:=Tryd.func70.trans (congrArg some (by kernel_rfl))
 f285:=Tryd.func71.trans (congrArg some (by kernel_rfl))
 f286:=Tryd.func72.trans (congrArg some (by kernel_rfl))
 f317:=Tryd.func77.trans (congrArg some (by kernel_rfl))
 f318:=Tryd.func79.trans (congrArg some (by kernel_rfl))
 f319:=Tryd.func80.trans (congrArg some (by kernel_rfl))
 f320:=Tryd.func81.trans (congrArg some (by kernel_rfl))
 f337:=Tryd.func84.trans (congrArg some (by kernel_rfl))
 f338:=Tryd.func85.trans (congrArg some (by kernel_rfl))
 t0:=Tryd.underlying0
 a0:=Tryd.isAgg0
 z0:=Tryd.sizeOf0
 v0:=Tryd.zeroValue0
 t2:=Tryd.underlying2
 a2:=Tryd.isAgg2
 z2:=Tryd.sizeOf2
 v2:=Tryd.zeroValue2
 t3:=Tryd.underlying3
 a3:=Tryd.isAgg3
 z3:=Tryd.sizeOf3
 v3:=Tryd.zeroValue3
 t4:=Tryd.underlying4
 a4:=Tryd.isAgg4
 z4:=Tryd.sizeOf4
 v4:=Tryd.zeroValue4
 t5:=Tryd.underlying5
 a5:=Tryd.isAgg5
 z5:=Tryd.sizeOf5
 v5:=Tryd.zeroValue5
 t9:=Tryd.underlying9
 a9:=Tryd.isAgg9
 z9:=Tryd.sizeOf9
 v9:=Tryd.zeroValue9
 t20:=Tryd.underlying20
 a20:=Tryd.isAgg20
 z20:=Tryd.sizeOf20
 v20:=Tryd.zeroValue20
 t37:=Tryd.underlying83
 a37:=Tryd.isAgg83
 z37:=Tryd.sizeOf83
 v37:=Tryd.zeroValue83
 t46:=Tryd.underlying109
 a46:=Tryd.isAgg109
 z46:=Tryd.sizeOf109
 v46:=Tryd.zeroValue109
 t51:=Tryd.underlying112
 a51:=Tryd.isAgg112
 z51:=Tryd.sizeOf112
 v51:=Tryd.zeroValue112
 t53:=Tryd.underlying102
 a53:=Tryd.isAgg102
 z53:=Tryd.sizeOf102
 v53:=Tryd.zeroValue102
 t171:=Tryd.underlying101
 a171:=Tryd.isAgg101
 z171:=Tryd.sizeOf101
 v171:=Tryd.zeroValue101
 t173:=Tryd.underlying105
 a173:=Tryd.isAgg105
 z173:=Tryd.sizeOf105
 v173:=Tryd.zeroValue105
 t212:=Tryd.underlying111
 a212:=Tryd.isAgg111
 z212:=Tryd.sizeOf111
 v212:=Tryd.zeroValue111
 t213:=Tryd.underlying113
 a213:=Tryd.isAgg113
 z213:=Tryd.sizeOf113
 t232:=Tryd.underlying119
 a232:=Tryd.isAgg119
 z232:=Tryd.sizeOf119
 v232:=Tryd.zeroValue119
 t233:=Tryd.underlying120
 a233:=Tryd.isAgg120
 z233:=Tryd.sizeOf120
 v233:=Tryd.zeroValue120
 g17:=by kernel_rfl
 g18:=by kernel_rfl
 g19:=by kernel_rfl
 i0:=by kernel_rfl
 i2:=by kernel_rfl
 i3:=by kernel_rfl
 i4:=by kernel_rfl
 i5:=by kernel_rfl
 i9:=by kernel_rfl
 i20:=by kernel_rfl
 i37:=by kernel_rfl
 i46:=by kernel_rfl
 i51:=by kernel_rfl
 i53:=by kernel_rfl
 i171:=by kernel_rfl
 i173:=by kernel_rfl
 i212:=by kernel_rfl
 i232:=by kernel_rfl
 i233:=by kernel_rfl
 m17:=by kernel_rfl
 m18:=by kernel_rfl
 m19:=by kernel_rfl}
open Go.RowKit Go.Sort Go.Lib in
theorem Tryd.strconv_Itoa (n:Int) (h0: -9223372036854775808≤n) (h1:n≤9223372036854775807) (w:World) (htab:Lib.TabIs Tryd.prog w "internal/strconv.uint64pow10" .u64 Lib.pow10Tab):
  Calls Tryd.prog 56 #[.int .i64 n] w fun e w'=>e=.returned (.string ⟨(Lib.itoa n).toArray⟩)∧∃k os,w'=grow (w.drewN k) os:=Any.strconv_Itoa Tryd.laysM171 n h0 h1 w htab
def Tryd.laysM173_ren:Go.Shelf.Ren:=⟨fun|173=>57|246=>67|283=>69|284=>70|285=>71|286=>72|129=>78|317=>77|318=>79|319=>80|320=>81|337=>84|338=>85|n=>n,fun|2=>2|3=>3|9=>9|4=>4|171=>101|0=>0|53=>102|37=>83|5=>5|173=>105|212=>111|51=>112|20=>20|213=>113|46=>109|232=>119|233=>120|n=>n,fun|17=>1|18=>2|19=>3|n=>n⟩
theorem Tryd.laysM173:Go.Proofs.LaysM.n173 Tryd.prog Tryd.laysM173_ren:={
 mixed:=by kernel_rfl
 f129:=Tryd.func78.trans (congrArg some (by kernel_rfl))
 f173:=Tryd.func57.trans (congrArg some (by kernel_rfl))
 f246:=Tryd.func67.trans (congrArg some (by kernel_rfl))
 f283:=Tryd.func69.trans (congrArg some (by kernel_rfl))
 f284:=Tryd.func70.trans (congrArg some (by kernel_rfl))
 f285:=Tryd.func71.trans (congrArg some (by kernel_rfl))
 f286:=Tryd.func72.trans (congrArg some (by kernel_rfl))
 f317:=Tryd.func77.trans (congrArg some (by kernel_rfl))
 f318:=Tryd.func79.trans (congrArg some (by kernel_rfl))
 f319:=Tryd.func80.trans (congrArg some (by kernel_rfl))
 f320:=Tryd.func81.trans (congrArg some (by kernel_rfl))
 f337:=Tryd.func84.trans (congrArg some (by kernel_rfl))
 f338:=Tryd.func85.trans (congrArg some (by kernel_rfl))
 t0:=Tryd.underlying0
 a0:=Tryd.isAgg0
 z0:=Tryd.sizeOf0
 v0:=Tryd.zeroValue0
 t2:=Tryd.underlying2
 a2:=Tryd.isAgg2
 z2:=Tryd.sizeOf2
 v2:=Tryd.zeroValue2
 t3:=Tryd.underlying3
 a3:=Tryd.isAgg3
 z3:=Tryd.sizeOf3
 v3:=Tryd.zeroValue3
 t4:=Tryd.underlying4
 a4:=Tryd.isAgg4
 z4:=Tryd.sizeOf4
 v4:=Tryd.zeroValue4
 t5:=Tryd.underlying5
 a5:=Tryd.isAgg5
 z5:=Tryd.sizeOf5
 v5:=Tryd.zeroValue5
 t9:=Tryd.underlying9
 a9:=Tryd.isAgg9
 z9:=Tryd.sizeOf9
 v9:=Tryd.zeroValue9
 t20:=Tryd.underlying20
 a20:=Tryd.isAgg20
 z20:=Tryd.sizeOf20
 v20:=Tryd.zeroValue20
 t37:=Tryd.underlying83
 a37:=Tryd.isAgg83
 z37:=Tryd.sizeOf83
 v37:=Tryd.zeroValue83
 t46:=Tryd.underlying109
 a46:=Tryd.isAgg109
 z46:=Tryd.sizeOf109
 v46:=Tryd.zeroValue109
 t51:=Tryd.underlying112
 a51:=Tryd.isAgg112
 z51:=Tryd.sizeOf112
 v51:=Tryd.zeroValue112
 t53:=Tryd.underlying102
 a53:=Tryd.isAgg102
 z53:=Tryd.sizeOf102
 v53:=Tryd.zeroValue102
 t171:=Tryd.underlying101
 a171:=Tryd.isAgg101
 z171:=Tryd.sizeOf101
 v171:=Tryd.zeroValue101
 t173:=Tryd.underlying105
 a173:=Tryd.isAgg105
 z173:=Tryd.sizeOf105
 v173:=Tryd.zeroValue105
 t212:=Tryd.underlying111
 a212:=Tryd.isAgg111
 z212:=Tryd.sizeOf111
 v212:=Tryd.zeroValue111
 t213:=Tryd.underlying113
 a213:=Tryd.isAgg113
 z213:=Tryd.sizeOf113
 t232:=Tryd.underlying119
 a232:=Tryd.isAgg119
 z232:=Tryd.sizeOf119
 v232:=Tryd.zeroValue119
 t233:=Tryd.underlying120
 a233:=Tryd.isAgg120
 z233:=Tryd.sizeOf120
 v233:=Tryd.zeroValue120
 g17:=by kernel_rfl
 g18:=by kernel_rfl
 g19:=by kernel_rfl
 i0:=by kernel_rfl
 i2:=by kernel_rfl
 i3:=by kernel_rfl
 i4:=by kernel_rfl
 i5:=by kernel_rfl
 i9:=by kernel_rfl
 i20:=by kernel_rfl
 i37:=by kernel_rfl
 i46:=by kernel_rfl
 i51:=by kernel_rfl
 i53:=by kernel_rfl
 i171:=by kernel_rfl
 i173:=by kernel_rfl
 i212:=by kernel_rfl
 i232:=by kernel_rfl
 i233:=by kernel_rfl
 m17:=by kernel_rfl
 m18:=by kernel_rfl
 m19:=by kernel_rfl}
open Go.RowKit Go.Sort Go.Lib in
theorem Tryd.strconv_FormatInt_10 (n:Int) (h0: -9223372036854775808≤n) (h1:n≤9223372036854775807) (w:World) (htab:Lib.TabIs Tryd.prog w "internal/strconv.uint64pow10" .u64 Lib.pow10Tab):
  Calls Tryd.prog 57 #[.int .i64 n,.int .i64 10] w fun e w'=>e=.returned (.string ⟨(Lib.itoa n).toArray⟩)∧∃k os,w'=grow (w.drewN k) os:=Any.strconv_FormatInt_10 Tryd.laysM173 n h0 h1 w htab
def Tryd.laysM316_ren:Go.Shelf.Ren:=⟨fun|316=>61|n=>n,fun|9=>9|3=>3|4=>4|37=>83|0=>0|127=>100|5=>5|n=>n,fun|n=>n⟩
theorem Tryd.laysM316:Go.Proofs.LaysM.n316 Tryd.prog Tryd.laysM316_ren:={
 mixed:=by kernel_rfl
 f316:=Tryd.func61.trans (congrArg some (by kernel_rfl))
 t0:=Tryd.underlying0
 a0:=Tryd.isAgg0
 z0:=Tryd.sizeOf0
 v0:=Tryd.zeroValue0
 t3:=Tryd.underlying3
 a3:=Tryd.isAgg3
 z3:=Tryd.sizeOf3
 v3:=Tryd.zeroValue3
 t4:=Tryd.underlying4
 a4:=Tryd.isAgg4
 z4:=Tryd.sizeOf4
 v4:=Tryd.zeroValue4
 t9:=Tryd.underlying9
 a9:=Tryd.isAgg9
 z9:=Tryd.sizeOf9
 v9:=Tryd.zeroValue9
 t37:=Tryd.underlying83
 a37:=Tryd.isAgg83
 z37:=Tryd.sizeOf83
 v37:=Tryd.zeroValue83
 t127:=Tryd.underlying100
 a127:=Tryd.isAgg100
 z127:=Tryd.sizeOf100
 v127:=Tryd.zeroValue100
 t5:=Tryd.underlying5
 a5:=Tryd.isAgg5
 z5:=Tryd.sizeOf5
 v5:=Tryd.zeroValue5
 i0:=by kernel_rfl
 i3:=by kernel_rfl
 i4:=by kernel_rfl
 i5:=by kernel_rfl
 i9:=by kernel_rfl
 i37:=by kernel_rfl
 i127:=by kernel_rfl}
open Go.RowKit in
theorem Tryd.stringslite_Clone (s:ByteArray) (w:World) (hlim:s.size≤281474976710656):
  Calls Tryd.prog 61 #[.string s] w fun e w'=>e=.returned (.string s)∧Below w.heap.size w w':=Any.stringslite_Clone Tryd.laysM316 s w hlim
def Tryd.lays144_ren:Go.Shelf.Ren:=⟨fun|144=>55|143=>65|219=>68|217=>73|225=>74|224=>75|267=>76|266=>82|314=>83|n=>n,fun|9=>9|4=>4|3=>3|5=>5|46=>109|146=>116|51=>112|n=>n,fun|1=>0|n=>n⟩
theorem Tryd.lays144:Go.Proofs.Lays.n144 Tryd.prog Tryd.lays144_ren:={
 mixed:=by kernel_rfl
 f143:=Tryd.func65.trans (congrArg some (by kernel_rfl))
 f144:=Tryd.func55.trans (congrArg some (by kernel_rfl))
 f217:=Tryd.func73.trans (congrArg some (by kernel_rfl))
 f219:=Tryd.func68.trans (congrArg some (by kernel_rfl))
 f224:=Tryd.func75.trans (congrArg some (by kernel_rfl))
 f225:=Tryd.func74.trans (congrArg some (by kernel_rfl))
 f266:=Tryd.func82.trans (congrArg some (by kernel_rfl))
 f267:=Tryd.func76.trans (congrArg some (by kernel_rfl))
 f314:=Tryd.func83.trans (congrArg some (by kernel_rfl))
 t3:=Tryd.underlying3
 a3:=Tryd.isAgg3
 z3:=Tryd.sizeOf3
 v3:=Tryd.zeroValue3
 t4:=Tryd.underlying4
 a4:=Tryd.isAgg4
 z4:=Tryd.sizeOf4
 v4:=Tryd.zeroValue4
 t5:=Tryd.underlying5
 a5:=Tryd.isAgg5
 z5:=Tryd.sizeOf5
 v5:=Tryd.zeroValue5
 t9:=Tryd.underlying9
 a9:=Tryd.isAgg9
 z9:=Tryd.sizeOf9
 v9:=Tryd.zeroValue9
 t46:=Tryd.underlying109
 a46:=Tryd.isAgg109
 z46:=Tryd.sizeOf109
 v46:=Tryd.zeroValue109
 t51:=Tryd.underlying112
 a51:=Tryd.isAgg112
 z51:=Tryd.sizeOf112
 v51:=Tryd.zeroValue112
 t146:=Tryd.underlying116
 a146:=Tryd.isAgg116
 z146:=Tryd.sizeOf116
 v146:=Tryd.zeroValue116
 g1:=by kernel_rfl}
open Go.RowKit Go.Lib in
theorem Tryd.strings_Contains_one (s:ByteArray) (c:UInt8) (w:World):
  Calls Tryd.prog 55 #[.string s,.string ⟨#[c]⟩] w fun e w'=>e=.returned (.bool (decide (0≤Lib.indexByte s.data.toList c)))∧w'=w:=Any.strings_Contains_one Tryd.lays144 s c w
end Go.Proofs
namespace Go.Proofs.YthmnmaemnihkeaaDoor
open Go.ChangeShapes Go.WideShapes Go.ChangeAt Go.RowKit
abbrev Tab (w:World):Prop:=Lib.TabIs Tryd.prog w "internal/strconv.uint64pow10" .u64 Lib.pow10Tab
theorem Tab.below {w w':World} (h:Tab w) (b:Below w.heap.size w w'):Tab w':=Lib.tabBelow_of_tabIs h w' b
theorem below_grow (w:World) (k:Nat) (os:Array Obj):Below w.heap.size w (Sort.grow (w.drewN k) os):=
 ⟨rfl,rfl,rfl,by simp[Sort.grow],fun j hj=>by
  show(w.heap++os)[j]?=w.heap[j]?
  rw[Array.getElem?_append_left hj]⟩
theorem digits_dec (n:Nat):Lib.decDigits n=dec n:=by
 induction n using Nat.strongRecOn with
 |ind n ih=>
  rw[Lib.decDigits,dec]
  by_cases h:n<10
  ·simp[h,digit,Nat.mod_eq_of_lt h]
  ·simp only[h,dite_false,if_false]
   rw[ih (n/10) (by omega)]
   rfl
theorem itoa_dec (n:Nat):Lib.itoa (n:Int)=dec n:=by
 unfold Lib.itoa
 rw[if_neg (by omega),digits_dec]
 rfl
theorem index_pos (c:UInt8) (l:Bs):Lib.indexByte l c=if posB c l=l.length then-1 else(posB c l:Int):=by
 induction l with
 |nil=>simp[Lib.indexByte,posB]
 |cons b l ih=>
  rw[Lib.indexByte,posB_cons,ih]
  by_cases h:b=c
  ·simp[h]
  ·have h1:(b==c)=false:=by simpa using h
   rw[h1,if_neg h]
   by_cases h2:posB c l=l.length
   ·simp[h2]
   ·have h3:((posB c l:Int)== -1)=false:=by simp
    simp[h2,h3]
theorem contains_is (c:UInt8) (l:Bs):decide (0≤Lib.indexByte l c)= !(l.all (fun b=>b !=c)):=by
 rw[index_pos]
 by_cases h:posB c l=l.length
 ·rw[if_pos h,(posB_all c l).1 h];rfl
 ·have h2:l.all (fun b=>b !=c)=false:=by
   cases e:l.all (fun b=>b !=c)with
   |true=>exact absurd ((posB_all c l).2 e) h
   |false=>rfl
  rw[if_neg h,h2]
  simp
end Go.Proofs.YthmnmaemnihkeaaDoor
set_option maxRecDepth 20000
set_option maxHeartbeats 1000000
namespace Go.Proofs.YthmnmaemnihkeaaDoor
open Go.ChangeShapes Go.WideShapes Go.ChangeAt Go.RowKit
theorem iframed_any (l:Bs) (w:World) (hl:l.length≤1048576) (ht:Tab w):
  Calls Tryd.prog 38 #[S l] w fun e w'=>e=.returned (S (framedS l))∧Below w.heap.size w w':=by
 have hsz:(⟨l.toArray⟩:ByteArray).size=l.length:=rfl
 by_cases h300:(300:Int)<(l.length:Int)
 ·have HF:Hid (framedS l=[]):=by
   have:¬l.length≤300:=by omega
   simp[Hid,framedS,plainB,this]
  unfold S
  go_enter Tryd.func38,Tryd.ntmps38
  go_wp2_with fail
  go_ret
  rw[HF.out]
  exact⟨rfl,Below.refl _ _⟩
 ·have c0:Calls Tryd.prog 55 #[.string ⟨l.toArray⟩,.string ⟨#[10]⟩] w fun e w'=>e=.returned (.bool (!(l.all (fun b=>b !=10))))∧w'=w:=by
   have:=Tryd.strings_Contains_one ⟨l.toArray⟩ 10 w
   rwa[show(⟨l.toArray⟩:ByteArray).data.toList=l from rfl,contains_is]at this
  by_cases hp:l.all (fun b=>b !=10)=true
  ·rw[hp]at c0
   have HF:Hid (framedS l=dec l.length++[32]++dec (chk l).toNat++[32]++l++[10]):=by
    have:l.length≤300:=by omega
    simp[Hid,framedS,plainB,hp,this,framed]
   have hb:=chk_bd l
   have c1:=fun wx (h:Tab wx)=>Tryd.strconv_Itoa (l.length:Nat) (by omega) (by omega) wx h
   have c2:=fun wx=>icheck_any l wx hl
   have c3:=fun wx (h:Tab wx)=>Tryd.strconv_FormatInt_10 (chk l) (by omega) (by omega) wx h
   have e3:Lib.itoa (chk l)=dec (chk l).toNat:=by have h:=itoa_dec (chk l).toNat;rwa[chk_cast]at h
   simp only[itoa_dec]at c1
   simp only[e3]at c3
   have d1:=dec_len 13 l.length (by omega)
   have d2:=dec_len 5 (chk l).toNat (by omega)
   obtain⟨x,hx⟩:∃x,x=chk l:=⟨_,rfl⟩
   obtain⟨p,hpp⟩:∃p,p=dec l.length:=⟨_,rfl⟩
   obtain⟨q,hq⟩:∃q,q=dec (chk l).toNat:=⟨_,rfl⟩
   simp only[←hpp]at c1 d1 HF
   simp only[←hq]at c3 d2 HF
   simp only[←hx]at c2 c3
   have HT:Hid (Tab w):=ht
   clear hpp hq hx e3 hb hp ht
   unfold S at c2⊢
   go_enter Tryd.func38,Tryd.ntmps38
   go_wp2_with fail
   refine c0.mono ?_
   rintro e w' ⟨rfl,hw⟩;subst w'
   clear c0
   go_wp2_with fail
   refine(c1 w HT.out).mono ?_
   rintro e w1 ⟨rfl,k1,o1,hw1⟩
   have HB:Hid (Below w.heap.size w w1):=by rw[hw1];exact below_grow w k1 o1
   clear hw1 c1
   go_wp2_with fail
   refine(c2 w1).mono ?_
   rintro e w' ⟨rfl,hw⟩;subst w'
   clear c2
   go_wp2_with fail
   refine(c3 w1 (HT.out.below HB.out)).mono ?_
   rintro e w2 ⟨rfl,k2,o2,hw2⟩
   have HC:Hid (Below w.heap.size w w2):=HB.out.trans (by rw[hw2];exact(below_grow w1 k2 o2).mono HB.out.size)
   clear hw2 c3 HB
   go_wp2_with fail
   go_ret
   refine⟨congrArg (fun x=>Ending.returned (Value.string x)) ?_,HC.out⟩
   rw[HF.out,app,app,app,app,app]
  ·have hp':l.all (fun b=>b !=10)=false:=by simpa using hp
   rw[hp']at c0
   have HF:Hid (framedS l=[]):=by simp[Hid,framedS,plainB,hp']
   clear hp hp' ht
   unfold S
   go_enter Tryd.func38,Tryd.ntmps38
   go_wp2_with fail
   refine c0.mono ?_
   rintro e w' ⟨rfl,hw⟩;subst w'
   clear c0
   go_wp2_with fail
   go_ret
   rw[HF.out]
   exact⟨rfl,Below.refl _ _⟩
end Go.Proofs.YthmnmaemnihkeaaDoor
