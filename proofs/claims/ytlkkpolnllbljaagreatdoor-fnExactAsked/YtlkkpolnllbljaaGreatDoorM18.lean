/- Contracts of Go's library at this program, laid by the kit's own tool. -/
import Derived.Shelf.Strings.Builder1
import Derived.Shelf.Strings.Builder2
import Derived.Shelf.Strings.OnBuilder
import Derived.Shelf.Strconv.Itoa0
import Derived.Shelf.Strconv.Itoa1
import Derived.Shelf.LaysM
import Derived.Shelf.Strconv.Itoa2
import Derived.Shelf.Strconv.Itoa3
import Derived.Shelf.Strconv.Itoa4
import Derived.Shelf.Strconv.Clone
import Derived.Shelf.Strings.Search1
import Derived.Shelf.Strings.Search2
import Derived.Shelf.Strings.Search3
import Derived.Shelf.Strings.Cut
import Derived.Shelf.Strings.Count
import Derived.Shelf.Strings.Shaped
import Derived.Shelf.Unicode.DecodeSlow
import Derived.Test.YtlkkpolnllbljaaGreatDoorProg
import Derived.Test.YtlkkpolnllbljaaGreatDoorM7
import Derived.Lib.AppendIntMem
import Derived.Test.YtlkkpolnllbljaaGreatDoorM6
import Derived.Test.YtlkkpolnllbljaaGreatDoorM17
import Derived.Deep.RegionHeld3
import Derived.RangeFuncNested
import Derived.RangeFuncBox
import Derived.RangeFuncCalls
import Derived.RangeFuncLeaves
import Derived.Shelf.Abstract
import Derived.OwnWalkIn
import Derived.TacticsInMore
import Derived.LoopNIn
import Derived.LoopIn
import Derived.Maps.OwnIn
import Derived.RegionIn
import Derived.Test.YtlkkpolnllbljaaGreatDoorM9
namespace Go.Proofs
open Go.Shelf
def Tryz.lays156_ren : Go.Shelf.Ren := ⟨fun | 156 => 77 | 165 => 117 | 166 => 118 | 169 => 119 | 240 => 158 | 241 => 159 | 276 => 198 | 277 => 199 | n => n, fun | 31 => 110 | 9 => 9 | 3 => 3 | 4 => 4 | 0 => 0 | 20 => 20 | 72 => 135 | 76 => 139 | 70 => 133 | 37 => 121 | 75 => 138 | 127 => 178 | 164 => 222 | 5 => 5 | 80 => 141 | n => n, fun | n => n⟩
theorem Tryz.lays156 : Go.Proofs.Lays.n156 Tryz.prog Tryz.lays156_ren := {
  mixed := by kernel_rfl
  f156 := Tryz.func77.trans (congrArg some (by kernel_rfl))
  f165 := Tryz.func117.trans (congrArg some (by kernel_rfl))
  f166 := Tryz.func118.trans (congrArg some (by kernel_rfl))
  f169 := Tryz.func119.trans (congrArg some (by kernel_rfl))
  f240 := Tryz.func158.trans (congrArg some (by kernel_rfl))
  f241 := Tryz.func159.trans (congrArg some (by kernel_rfl))
  f276 := Tryz.func198.trans (congrArg some (by kernel_rfl))
  f277 := Tryz.func199.trans (congrArg some (by kernel_rfl))
  t0 := Tryz.underlying0
  a0 := Tryz.isAgg0
  z0 := Tryz.sizeOf0
  v0 := Tryz.zeroValue0
  t3 := Tryz.underlying3
  a3 := Tryz.isAgg3
  z3 := Tryz.sizeOf3
  v3 := Tryz.zeroValue3
  t4 := Tryz.underlying4
  a4 := Tryz.isAgg4
  z4 := Tryz.sizeOf4
  v4 := Tryz.zeroValue4
  t9 := Tryz.underlying9
  a9 := Tryz.isAgg9
  z9 := Tryz.sizeOf9
  v9 := Tryz.zeroValue9
  t20 := Tryz.underlying20
  a20 := Tryz.isAgg20
  z20 := Tryz.sizeOf20
  v20 := Tryz.zeroValue20
  t31 := Tryz.underlying110
  a31 := Tryz.isAgg110
  z31 := Tryz.sizeOf110
  v31 := Tryz.zeroValue110
  t37 := Tryz.underlying121
  a37 := Tryz.isAgg121
  z37 := Tryz.sizeOf121
  v37 := Tryz.zeroValue121
  t70 := Tryz.underlying133
  a70 := Tryz.isAgg133
  z70 := Tryz.sizeOf133
  v70 := Tryz.zeroValue133
  t72 := Tryz.underlying135
  a72 := Tryz.isAgg135
  z72 := Tryz.sizeOf135
  v72 := Tryz.zeroValue135
  t75 := Tryz.underlying138
  a75 := Tryz.isAgg138
  z75 := Tryz.sizeOf138
  v75 := Tryz.zeroValue138
  t76 := Tryz.underlying139
  a76 := Tryz.isAgg139
  z76 := Tryz.sizeOf139
  v76 := Tryz.zeroValue139
  t127 := Tryz.underlying178
  a127 := Tryz.isAgg178
  z127 := Tryz.sizeOf178
  v127 := Tryz.zeroValue178
  t164 := Tryz.underlying222
  a164 := Tryz.isAgg222
  z164 := Tryz.sizeOf222
  v164 := Tryz.zeroValue222 }
theorem Tryz.Builder_Extra_156 : Builder.Extra Tryz.prog Tryz.lays156_ren := {
  sizeBuilder := by kernel_rfl
  liesBuilder := by kernel_rfl
  t5 := Tryz.underlying5
  a5 := Tryz.isAgg5
  z5 := Tryz.sizeOf5
  v5 := Tryz.zeroValue5
  infoByte := by kernel_rfl
  cellsByte := by kernel_rfl
  sizeByte := by kernel_rfl
  neB5 := by decide }
open Go.RowKit in
theorem Tryz.strings_Join (bk o c : Nat) (xs : List ByteArray) (sep : ByteArray) (w : World) (hcells : ∀ (j : Nat) x, xs[j]? = some x → w.cell? ⟨bk, o + j, none⟩ = some (.string x)) (hbk : bk < w.heap.size) (hN : xs.length ≤ 140737488355328) (hcap : xs.length ≤ c) (hlen : (Lib.join (xs.map (·.data.toList)) sep.data.toList).length ≤ 140737488355328) :
    Calls Tryz.prog 77 #[.slice (some ⟨bk, o, none⟩) xs.length c, .string sep] w fun e w' => e = .returned (.string ⟨(Lib.join (xs.map (·.data.toList)) sep.data.toList).toArray⟩) ∧ Below w.heap.size w w' := Any.strings_Join Tryz.lays156 Tryz.Builder_Extra_156 bk o c xs sep w hcells hbk hN hcap hlen
def Tryz.laysM171_ren : Go.Shelf.Ren := ⟨fun | 171 => 244 | 243 => 256 | 246 => 116 | 283 => 154 | 284 => 155 | 285 => 156 | 286 => 157 | 129 => 194 | 317 => 193 | 318 => 195 | 319 => 196 | 320 => 197 | 337 => 229 | 338 => 230 | n => n, fun | 3 => 3 | 9 => 9 | 2 => 2 | 4 => 4 | 171 => 180 | 0 => 0 | 53 => 181 | 37 => 121 | 5 => 5 | 173 => 184 | 212 => 217 | 51 => 218 | 20 => 20 | 213 => 219 | 46 => 130 | 232 => 279 | 233 => 280 | n => n, fun | 17 => 4 | 18 => 7 | 19 => 8 | n => n⟩
theorem Tryz.laysM171 : Go.Proofs.LaysM.n171 Tryz.prog Tryz.laysM171_ren := {
  mixed := by kernel_rfl
  f129 := Tryz.func194.trans (congrArg some (by kernel_rfl))
  f171 := Tryz.func244.trans (congrArg some (by kernel_rfl))
  f243 := Tryz.func256.trans (congrArg some (by kernel_rfl))
  f246 := Tryz.func116.trans (congrArg some (by kernel_rfl))
  f283 := Tryz.func154.trans (congrArg some (by kernel_rfl))
  f284 := Tryz.func155.trans (congrArg some (by kernel_rfl))
  f285 := Tryz.func156.trans (congrArg some (by kernel_rfl))
  f286 := Tryz.func157.trans (congrArg some (by kernel_rfl))
  f317 := Tryz.func193.trans (congrArg some (by kernel_rfl))
  f318 := Tryz.func195.trans (congrArg some (by kernel_rfl))
  f319 := Tryz.func196.trans (congrArg some (by kernel_rfl))
  f320 := Tryz.func197.trans (congrArg some (by kernel_rfl))
  f337 := Tryz.func229.trans (congrArg some (by kernel_rfl))
  f338 := Tryz.func230.trans (congrArg some (by kernel_rfl))
  t0 := Tryz.underlying0
  a0 := Tryz.isAgg0
  z0 := Tryz.sizeOf0
  v0 := Tryz.zeroValue0
  t2 := Tryz.underlying2
  a2 := Tryz.isAgg2
  z2 := Tryz.sizeOf2
  v2 := Tryz.zeroValue2
  t3 := Tryz.underlying3
  a3 := Tryz.isAgg3
  z3 := Tryz.sizeOf3
  v3 := Tryz.zeroValue3
  t4 := Tryz.underlying4
  a4 := Tryz.isAgg4
  z4 := Tryz.sizeOf4
  v4 := Tryz.zeroValue4
  t5 := Tryz.underlying5
  a5 := Tryz.isAgg5
  z5 := Tryz.sizeOf5
  v5 := Tryz.zeroValue5
  t9 := Tryz.underlying9
  a9 := Tryz.isAgg9
  z9 := Tryz.sizeOf9
  v9 := Tryz.zeroValue9
  t20 := Tryz.underlying20
  a20 := Tryz.isAgg20
  z20 := Tryz.sizeOf20
  v20 := Tryz.zeroValue20
  t37 := Tryz.underlying121
  a37 := Tryz.isAgg121
  z37 := Tryz.sizeOf121
  v37 := Tryz.zeroValue121
  t46 := Tryz.underlying130
  a46 := Tryz.isAgg130
  z46 := Tryz.sizeOf130
  v46 := Tryz.zeroValue130
  t51 := Tryz.underlying218
  a51 := Tryz.isAgg218
  z51 := Tryz.sizeOf218
  v51 := Tryz.zeroValue218
  t53 := Tryz.underlying181
  a53 := Tryz.isAgg181
  z53 := Tryz.sizeOf181
  v53 := Tryz.zeroValue181
  t171 := Tryz.underlying180
  a171 := Tryz.isAgg180
  z171 := Tryz.sizeOf180
  v171 := Tryz.zeroValue180
  t173 := Tryz.underlying184
  a173 := Tryz.isAgg184
  z173 := Tryz.sizeOf184
  v173 := Tryz.zeroValue184
  t212 := Tryz.underlying217
  a212 := Tryz.isAgg217
  z212 := Tryz.sizeOf217
  v212 := Tryz.zeroValue217
  t213 := Tryz.underlying219
  a213 := Tryz.isAgg219
  z213 := Tryz.sizeOf219
  t232 := Tryz.underlying279
  a232 := Tryz.isAgg279
  z232 := Tryz.sizeOf279
  v232 := Tryz.zeroValue279
  t233 := Tryz.underlying280
  a233 := Tryz.isAgg280
  z233 := Tryz.sizeOf280
  v233 := Tryz.zeroValue280
  g17 := by kernel_rfl
  g18 := by kernel_rfl
  g19 := by kernel_rfl
  i0 := by kernel_rfl
  i2 := by kernel_rfl
  i3 := by kernel_rfl
  i4 := by kernel_rfl
  i5 := by kernel_rfl
  i9 := by kernel_rfl
  i20 := by kernel_rfl
  i37 := by kernel_rfl
  i46 := by kernel_rfl
  i51 := by kernel_rfl
  i53 := by kernel_rfl
  i171 := by kernel_rfl
  i173 := by kernel_rfl
  i212 := by kernel_rfl
  i232 := by kernel_rfl
  i233 := by kernel_rfl
  m17 := by kernel_rfl
  m18 := by kernel_rfl
  m19 := by kernel_rfl }
open Go.RowKit Go.Sort Go.Lib in
theorem Tryz.strconv_Itoa (n : Int) (h0 : -9223372036854775808 ≤ n) (h1 : n ≤ 9223372036854775807) (w : World) (htab : Lib.TabIs Tryz.prog w "internal/strconv.uint64pow10" .u64 Lib.pow10Tab) :
    Calls Tryz.prog 244 #[.int .i64 n] w fun e w' => e = .returned (.string ⟨(Lib.itoa n).toArray⟩) ∧ ∃ k os, w' = grow (w.drewN k) os := Any.strconv_Itoa Tryz.laysM171 n h0 h1 w htab
def Tryz.laysM173_ren : Go.Shelf.Ren := ⟨fun | 173 => 76 | 246 => 116 | 283 => 154 | 284 => 155 | 285 => 156 | 286 => 157 | 129 => 194 | 317 => 193 | 318 => 195 | 319 => 196 | 320 => 197 | 337 => 229 | 338 => 230 | n => n, fun | 2 => 2 | 3 => 3 | 9 => 9 | 4 => 4 | 171 => 180 | 0 => 0 | 53 => 181 | 37 => 121 | 5 => 5 | 173 => 184 | 212 => 217 | 51 => 218 | 20 => 20 | 213 => 219 | 46 => 130 | 232 => 279 | 233 => 280 | n => n, fun | 17 => 4 | 18 => 7 | 19 => 8 | n => n⟩
theorem Tryz.laysM173 : Go.Proofs.LaysM.n173 Tryz.prog Tryz.laysM173_ren := {
  mixed := by kernel_rfl
  f129 := Tryz.func194.trans (congrArg some (by kernel_rfl))
  f173 := Tryz.func76.trans (congrArg some (by kernel_rfl))
  f246 := Tryz.func116.trans (congrArg some (by kernel_rfl))
  f283 := Tryz.func154.trans (congrArg some (by kernel_rfl))
  f284 := Tryz.func155.trans (congrArg some (by kernel_rfl))
  f285 := Tryz.func156.trans (congrArg some (by kernel_rfl))
  f286 := Tryz.func157.trans (congrArg some (by kernel_rfl))
  f317 := Tryz.func193.trans (congrArg some (by kernel_rfl))
  f318 := Tryz.func195.trans (congrArg some (by kernel_rfl))
  f319 := Tryz.func196.trans (congrArg some (by kernel_rfl))
  f320 := Tryz.func197.trans (congrArg some (by kernel_rfl))
  f337 := Tryz.func229.trans (congrArg some (by kernel_rfl))
  f338 := Tryz.func230.trans (congrArg some (by kernel_rfl))
  t0 := Tryz.underlying0
  a0 := Tryz.isAgg0
  z0 := Tryz.sizeOf0
  v0 := Tryz.zeroValue0
  t2 := Tryz.underlying2
  a2 := Tryz.isAgg2
  z2 := Tryz.sizeOf2
  v2 := Tryz.zeroValue2
  t3 := Tryz.underlying3
  a3 := Tryz.isAgg3
  z3 := Tryz.sizeOf3
  v3 := Tryz.zeroValue3
  t4 := Tryz.underlying4
  a4 := Tryz.isAgg4
  z4 := Tryz.sizeOf4
  v4 := Tryz.zeroValue4
  t5 := Tryz.underlying5
  a5 := Tryz.isAgg5
  z5 := Tryz.sizeOf5
  v5 := Tryz.zeroValue5
  t9 := Tryz.underlying9
  a9 := Tryz.isAgg9
  z9 := Tryz.sizeOf9
  v9 := Tryz.zeroValue9
  t20 := Tryz.underlying20
  a20 := Tryz.isAgg20
  z20 := Tryz.sizeOf20
  v20 := Tryz.zeroValue20
  t37 := Tryz.underlying121
  a37 := Tryz.isAgg121
  z37 := Tryz.sizeOf121
  v37 := Tryz.zeroValue121
  t46 := Tryz.underlying130
  a46 := Tryz.isAgg130
  z46 := Tryz.sizeOf130
  v46 := Tryz.zeroValue130
  t51 := Tryz.underlying218
  a51 := Tryz.isAgg218
  z51 := Tryz.sizeOf218
  v51 := Tryz.zeroValue218
  t53 := Tryz.underlying181
  a53 := Tryz.isAgg181
  z53 := Tryz.sizeOf181
  v53 := Tryz.zeroValue181
  t171 := Tryz.underlying180
  a171 := Tryz.isAgg180
  z171 := Tryz.sizeOf180
  v171 := Tryz.zeroValue180
  t173 := Tryz.underlying184
  a173 := Tryz.isAgg184
  z173 := Tryz.sizeOf184
  v173 := Tryz.zeroValue184
  t212 := Tryz.underlying217
  a212 := Tryz.isAgg217
  z212 := Tryz.sizeOf217
  v212 := Tryz.zeroValue217
  t213 := Tryz.underlying219
  a213 := Tryz.isAgg219
  z213 := Tryz.sizeOf219
  t232 := Tryz.underlying279
  a232 := Tryz.isAgg279
  z232 := Tryz.sizeOf279
  v232 := Tryz.zeroValue279
  t233 := Tryz.underlying280
  a233 := Tryz.isAgg280
  z233 := Tryz.sizeOf280
  v233 := Tryz.zeroValue280
  g17 := by kernel_rfl
  g18 := by kernel_rfl
  g19 := by kernel_rfl
  i0 := by kernel_rfl
  i2 := by kernel_rfl
  i3 := by kernel_rfl
  i4 := by kernel_rfl
  i5 := by kernel_rfl
  i9 := by kernel_rfl
  i20 := by kernel_rfl
  i37 := by kernel_rfl
  i46 := by kernel_rfl
  i51 := by kernel_rfl
  i53 := by kernel_rfl
  i171 := by kernel_rfl
  i173 := by kernel_rfl
  i212 := by kernel_rfl
  i232 := by kernel_rfl
  i233 := by kernel_rfl
  m17 := by kernel_rfl
  m18 := by kernel_rfl
  m19 := by kernel_rfl }
open Go.RowKit Go.Sort Go.Lib in
theorem Tryz.strconv_FormatInt_10 (n : Int) (h0 : -9223372036854775808 ≤ n) (h1 : n ≤ 9223372036854775807) (w : World) (htab : Lib.TabIs Tryz.prog w "internal/strconv.uint64pow10" .u64 Lib.pow10Tab) :
    Calls Tryz.prog 76 #[.int .i64 n, .int .i64 10] w fun e w' => e = .returned (.string ⟨(Lib.itoa n).toArray⟩) ∧ ∃ k os, w' = grow (w.drewN k) os := Any.strconv_FormatInt_10 Tryz.laysM173 n h0 h1 w htab
def Tryz.laysM316_ren : Go.Shelf.Ren := ⟨fun | 316 => 114 | n => n, fun | 9 => 9 | 3 => 3 | 4 => 4 | 37 => 121 | 0 => 0 | 127 => 178 | 5 => 5 | n => n, fun | n => n⟩
theorem Tryz.laysM316 : Go.Proofs.LaysM.n316 Tryz.prog Tryz.laysM316_ren := {
  mixed := by kernel_rfl
  f316 := Tryz.func114.trans (congrArg some (by kernel_rfl))
  t0 := Tryz.underlying0
  a0 := Tryz.isAgg0
  z0 := Tryz.sizeOf0
  v0 := Tryz.zeroValue0
  t3 := Tryz.underlying3
  a3 := Tryz.isAgg3
  z3 := Tryz.sizeOf3
  v3 := Tryz.zeroValue3
  t4 := Tryz.underlying4
  a4 := Tryz.isAgg4
  z4 := Tryz.sizeOf4
  v4 := Tryz.zeroValue4
  t9 := Tryz.underlying9
  a9 := Tryz.isAgg9
  z9 := Tryz.sizeOf9
  v9 := Tryz.zeroValue9
  t37 := Tryz.underlying121
  a37 := Tryz.isAgg121
  z37 := Tryz.sizeOf121
  v37 := Tryz.zeroValue121
  t127 := Tryz.underlying178
  a127 := Tryz.isAgg178
  z127 := Tryz.sizeOf178
  v127 := Tryz.zeroValue178
  t5 := Tryz.underlying5
  a5 := Tryz.isAgg5
  z5 := Tryz.sizeOf5
  v5 := Tryz.zeroValue5
  i0 := by kernel_rfl
  i3 := by kernel_rfl
  i4 := by kernel_rfl
  i5 := by kernel_rfl
  i9 := by kernel_rfl
  i37 := by kernel_rfl
  i127 := by kernel_rfl }
open Go.RowKit in
theorem Tryz.stringslite_Clone (s : ByteArray) (w : World) (hlim : s.size ≤ 281474976710656) :
    Calls Tryz.prog 114 #[.string s] w fun e w' => e = .returned (.string s) ∧ Below w.heap.size w w' := Any.stringslite_Clone Tryz.laysM316 s w hlim
def Tryz.lays219_ren : Go.Shelf.Ren := ⟨fun | 219 => 246 | 217 => 257 | 225 => 258 | 224 => 259 | 267 => 260 | 266 => 267 | 314 => 268 | n => n, fun | 9 => 9 | 3 => 3 | 4 => 4 | 5 => 5 | 46 => 130 | 146 => 313 | 51 => 218 | n => n, fun | 1 => 6 | n => n⟩
theorem Tryz.lays219 : Go.Proofs.Lays.n219 Tryz.prog Tryz.lays219_ren := {
  mixed := by kernel_rfl
  f217 := Tryz.func257.trans (congrArg some (by kernel_rfl))
  f219 := Tryz.func246.trans (congrArg some (by kernel_rfl))
  f224 := Tryz.func259.trans (congrArg some (by kernel_rfl))
  f225 := Tryz.func258.trans (congrArg some (by kernel_rfl))
  f266 := Tryz.func267.trans (congrArg some (by kernel_rfl))
  f267 := Tryz.func260.trans (congrArg some (by kernel_rfl))
  f314 := Tryz.func268.trans (congrArg some (by kernel_rfl))
  t3 := Tryz.underlying3
  a3 := Tryz.isAgg3
  z3 := Tryz.sizeOf3
  v3 := Tryz.zeroValue3
  t4 := Tryz.underlying4
  a4 := Tryz.isAgg4
  z4 := Tryz.sizeOf4
  v4 := Tryz.zeroValue4
  t5 := Tryz.underlying5
  a5 := Tryz.isAgg5
  z5 := Tryz.sizeOf5
  v5 := Tryz.zeroValue5
  t9 := Tryz.underlying9
  a9 := Tryz.isAgg9
  z9 := Tryz.sizeOf9
  v9 := Tryz.zeroValue9
  t46 := Tryz.underlying130
  a46 := Tryz.isAgg130
  z46 := Tryz.sizeOf130
  v46 := Tryz.zeroValue130
  t51 := Tryz.underlying218
  a51 := Tryz.isAgg218
  z51 := Tryz.sizeOf218
  v51 := Tryz.zeroValue218
  t146 := Tryz.underlying313
  a146 := Tryz.isAgg313
  z146 := Tryz.sizeOf313
  v146 := Tryz.zeroValue313
  g1 := by kernel_rfl }
open Go.RowKit Go.Lib in
theorem Tryz.stringslite_Index_one (s : ByteArray) (c : UInt8) (w : World) :
    Calls Tryz.prog 246 #[.string s, .string ⟨#[c]⟩] w fun e w' => e = .returned (.int .i64 (Lib.indexByte s.data.toList c)) ∧ w' = w := Any.stringslite_Index_one Tryz.lays219 s c w
def Tryz.lays144_ren : Go.Shelf.Ren := ⟨fun | 144 => 243 | 143 => 249 | 219 => 246 | 217 => 257 | 225 => 258 | 224 => 259 | 267 => 260 | 266 => 267 | 314 => 268 | n => n, fun | 9 => 9 | 4 => 4 | 3 => 3 | 5 => 5 | 46 => 130 | 146 => 313 | 51 => 218 | n => n, fun | 1 => 6 | n => n⟩
theorem Tryz.lays144 : Go.Proofs.Lays.n144 Tryz.prog Tryz.lays144_ren := {
  mixed := by kernel_rfl
  f143 := Tryz.func249.trans (congrArg some (by kernel_rfl))
  f144 := Tryz.func243.trans (congrArg some (by kernel_rfl))
  f217 := Tryz.func257.trans (congrArg some (by kernel_rfl))
  f219 := Tryz.func246.trans (congrArg some (by kernel_rfl))
  f224 := Tryz.func259.trans (congrArg some (by kernel_rfl))
  f225 := Tryz.func258.trans (congrArg some (by kernel_rfl))
  f266 := Tryz.func267.trans (congrArg some (by kernel_rfl))
  f267 := Tryz.func260.trans (congrArg some (by kernel_rfl))
  f314 := Tryz.func268.trans (congrArg some (by kernel_rfl))
  t3 := Tryz.underlying3
  a3 := Tryz.isAgg3
  z3 := Tryz.sizeOf3
  v3 := Tryz.zeroValue3
  t4 := Tryz.underlying4
  a4 := Tryz.isAgg4
  z4 := Tryz.sizeOf4
  v4 := Tryz.zeroValue4
  t5 := Tryz.underlying5
  a5 := Tryz.isAgg5
  z5 := Tryz.sizeOf5
  v5 := Tryz.zeroValue5
  t9 := Tryz.underlying9
  a9 := Tryz.isAgg9
  z9 := Tryz.sizeOf9
  v9 := Tryz.zeroValue9
  t46 := Tryz.underlying130
  a46 := Tryz.isAgg130
  z46 := Tryz.sizeOf130
  v46 := Tryz.zeroValue130
  t51 := Tryz.underlying218
  a51 := Tryz.isAgg218
  z51 := Tryz.sizeOf218
  v51 := Tryz.zeroValue218
  t146 := Tryz.underlying313
  a146 := Tryz.isAgg313
  z146 := Tryz.sizeOf313
  v146 := Tryz.zeroValue313
  g1 := by kernel_rfl }
open Go.RowKit Go.Lib in
theorem Tryz.strings_Contains_one (s : ByteArray) (c : UInt8) (w : World) :
    Calls Tryz.prog 243 #[.string s, .string ⟨#[c]⟩] w fun e w' => e = .returned (.bool (decide (0 ≤ Lib.indexByte s.data.toList c))) ∧ w' = w := Any.strings_Contains_one Tryz.lays144 s c w
end Go.Proofs
/- What Go's library lays and answers: its table of powers of ten, numbers written, a byte looked for. -/
namespace Go.Proofs.YtlkkpolnllbljaaGreatDoor
open Go.ChangeShapes Go.WideShapes Go.ChangeAt Go.RowKit

abbrev Tab (w : World) : Prop := Lib.TabIs Tryz.prog w "internal/strconv.uint64pow10" .u64 Lib.pow10Tab
theorem Tab.below {w w' : World} (h : Tab w) (b : Below w.heap.size w w') : Tab w' := Lib.tabBelow_of_tabIs h w' b
theorem below_grow (w : World) (k : Nat) (os : Array Obj) : Below w.heap.size w (Sort.grow (w.drewN k) os) :=
  ⟨rfl, rfl, rfl, by simp [Sort.grow], fun j hj => by
    show (w.heap ++ os)[j]? = w.heap[j]?
    rw [Array.getElem?_append_left hj]⟩

theorem digits_dec (n : Nat) : Lib.decDigits n = dec n := by
  induction n using Nat.strongRecOn with
  | ind n ih =>
    rw [Lib.decDigits, dec]
    by_cases h : n < 10
    · simp [h, digit, Nat.mod_eq_of_lt h]
    · simp only [h, dite_false, if_false]
      rw [ih (n / 10) (by omega)]
      rfl
theorem itoa_dec (n : Nat) : Lib.itoa (n : Int) = dec n := by
  unfold Lib.itoa
  rw [if_neg (by omega), digits_dec]
  rfl

/- where 246 is laid -/
theorem index_pos (c : UInt8) (l : Bs) : Lib.indexByte l c = if posB c l = l.length then -1 else (posB c l : Int) := by
  induction l with
  | nil => simp [Lib.indexByte, posB]
  | cons b l ih =>
    rw [Lib.indexByte, posB_cons, ih]
    by_cases h : b = c
    · simp [h]
    · have h1 : (b == c) = false := by simpa using h
      rw [h1, if_neg h]
      by_cases h2 : posB c l = l.length
      · simp [h2]
      · have h3 : ((posB c l : Int) == -1) = false := by simp
        simp [h2, h3]
theorem contains_is (c : UInt8) (l : Bs) : decide (0 ≤ Lib.indexByte l c) = !(l.all (fun b => b != c)) := by
  rw [index_pos]
  by_cases h : posB c l = l.length
  · rw [if_pos h, (posB_all c l).1 h]; rfl
  · have h2 : l.all (fun b => b != c) = false := by
      cases e : l.all (fun b => b != c) with
      | true => exact absurd ((posB_all c l).2 e) h
      | false => rfl
    rw [if_neg h, h2]
    simp

end Go.Proofs.YtlkkpolnllbljaaGreatDoor
/- What Framed of the program answers: its numbers are written by Go's own library, whose table of powers of ten lies in a variable. -/
namespace Go.Proofs.YtlkkpolnllbljaaGreatDoor
open Go.ChangeShapes Go.WideShapes Go.ChangeAt Go.RowKit

set_option maxRecDepth 20000 in
set_option maxHeartbeats 1000000 in
theorem iframed_any (l : Bs) (w : World) (hl : l.length ≤ 1048576) (ht : Tab w) :
    Calls Tryz.prog 224 #[S l] w fun e w' => e = .returned (S (framedS l)) ∧ Below w.heap.size w w' := by
  have hsz : (⟨l.toArray⟩ : ByteArray).size = l.length := rfl
  by_cases h300 : (300 : Int) < (l.length : Int)
  · have HF : Hid (framedS l = []) := by
      have : ¬ l.length ≤ 300 := by omega
      simp [Hid, framedS, plainB, this]
    unfold S
    go_enter Tryz.func224, Tryz.ntmps224
    go_wp2_with fail
    go_ret
    rw [HF.out]
    exact ⟨rfl, Below.refl _ _⟩
  · have c0 : Calls Tryz.prog 243 #[.string ⟨l.toArray⟩, .string ⟨#[10]⟩] w fun e w' => e = .returned (.bool (!(l.all (fun b => b != 10)))) ∧ w' = w := by
      have := Tryz.strings_Contains_one ⟨l.toArray⟩ 10 w
      rwa [show (⟨l.toArray⟩ : ByteArray).data.toList = l from rfl, contains_is] at this
    by_cases hp : l.all (fun b => b != 10) = true
    · rw [hp] at c0
      have HF : Hid (framedS l = dec l.length ++ [32] ++ dec (chk l).toNat ++ [32] ++ l ++ [10]) := by
        have : l.length ≤ 300 := by omega
        simp [Hid, framedS, plainB, hp, this, framed]
      have hb := chk_bd l
      have c1 := fun wx (h : Tab wx) => Tryz.strconv_Itoa (l.length : Nat) (by omega) (by omega) wx h
      have c2 := fun wx => icheck_any l wx hl
      have c3 := fun wx (h : Tab wx) => Tryz.strconv_FormatInt_10 (chk l) (by omega) (by omega) wx h
      have e3 : Lib.itoa (chk l) = dec (chk l).toNat := by have h := itoa_dec (chk l).toNat; rwa [chk_cast] at h
      simp only [itoa_dec] at c1
      simp only [e3] at c3
      have d1 := dec_len 13 l.length (by omega)
      have d2 := dec_len 5 (chk l).toNat (by omega)
      obtain ⟨x, hx⟩ : ∃ x, x = chk l := ⟨_, rfl⟩
      obtain ⟨p, hpp⟩ : ∃ p, p = dec l.length := ⟨_, rfl⟩
      obtain ⟨q, hq⟩ : ∃ q, q = dec (chk l).toNat := ⟨_, rfl⟩
      simp only [← hpp] at c1 d1 HF
      simp only [← hq] at c3 d2 HF
      simp only [← hx] at c2 c3
      have HT : Hid (Tab w) := ht
      clear hpp hq hx e3 hb hp ht
      unfold S at c2 ⊢
      go_enter Tryz.func224, Tryz.ntmps224
      go_wp2_with fail
      refine c0.mono ?_
      rintro e w' ⟨rfl, hw⟩; subst w'
      clear c0
      go_wp2_with fail
      refine (c1 w HT.out).mono ?_
      rintro e w1 ⟨rfl, k1, o1, hw1⟩
      have HB : Hid (Below w.heap.size w w1) := by rw [hw1]; exact below_grow w k1 o1
      clear hw1 c1
      go_wp2_with fail
      refine (c2 w1).mono ?_
      rintro e w' ⟨rfl, hw⟩; subst w'
      clear c2
      go_wp2_with fail
      refine (c3 w1 (HT.out.below HB.out)).mono ?_
      rintro e w2 ⟨rfl, k2, o2, hw2⟩
      have HC : Hid (Below w.heap.size w w2) := HB.out.trans (by rw [hw2]; exact (below_grow w1 k2 o2).mono HB.out.size)
      clear hw2 c3 HB
      go_wp2_with fail
      go_ret
      refine ⟨congrArg (fun x => Ending.returned (Value.string x)) ?_, HC.out⟩
      rw [HF.out, app, app, app, app, app]
    · have hp' : l.all (fun b => b != 10) = false := by simpa using hp
      rw [hp'] at c0
      have HF : Hid (framedS l = []) := by simp [Hid, framedS, plainB, hp']
      clear hp hp' ht
      unfold S
      go_enter Tryz.func224, Tryz.ntmps224
      go_wp2_with fail
      refine c0.mono ?_
      rintro e w' ⟨rfl, hw⟩; subst w'
      clear c0
      go_wp2_with fail
      go_ret
      rw [HF.out]
      exact ⟨rfl, Below.refl _ _⟩
end Go.Proofs.YtlkkpolnllbljaaGreatDoor
/- What firstFrame of the program answers: what strings.Cut leaves, framed once more. -/
namespace Go.Proofs.YtlkkpolnllbljaaGreatDoor
open Go.ChangeShapes Go.WideShapes Go.ChangeAt Go.RowKit

def hasC (c : UInt8) (l : Bs) : Bool := decide (posB c l < l.length)
theorem behind_miss {c : UInt8} {l : Bs} (h : posB c l = l.length) : behind c l = [] ∧ before c l = l ∧ hasC c l = false := by
  simp [behind, before, hasC, h]
theorem posB_app (c : UInt8) (a r : Bs) (h : ∀ b ∈ a, b ≠ c) : posB c (a ++ c :: r) = a.length := by
  induction a with
  | nil => simp [posB]
  | cons b a ih =>
    rw [List.cons_append, posB_cons, if_neg (h b (by simp)), ih (fun x hx => h x (by simp [hx]))]
    rfl
theorem behind_app (c : UInt8) (a r : Bs) (h : ∀ b ∈ a, b ≠ c) : behind c (a ++ c :: r) = r := by
  unfold behind
  rw [posB_app c a r h, ← List.drop_drop, List.drop_left]
  rfl

set_option maxRecDepth 20000 in
set_option maxHeartbeats 1000000 in
theorem lcut_any (c : UInt8) (l : Bs) (w : World) (hl : l.length ≤ 1048576) :
    Calls Tryz.prog 225 #[S l, .string ⟨#[c]⟩] w fun e w' => e = .returned (.tuple #[S (before c l), S (behind c l), .bool (hasC c l)]) ∧ ∃ n, w' = w.drewN n := by
  have hsz : (⟨l.toArray⟩ : ByteArray).size = l.length := rfl
  have hs1 : (⟨#[c]⟩ : ByteArray).size = 1 := rfl
  have hle := posB_le c l
  have c0 := Tryz.stringslite_Index_one ⟨l.toArray⟩ c w
  rw [show (⟨l.toArray⟩ : ByteArray).data.toList = l from rfl, index_pos] at c0
  by_cases h : posB c l = l.length
  · obtain ⟨h1, h2, h3⟩ := behind_miss h
    rw [if_pos h] at c0
    rw [h1, h2, h3]
    unfold S
    clear h1 h2 h3
    go_enter Tryz.func225, Tryz.ntmps225
    go_wp2_with fail
    refine c0.mono ?_
    rintro e w' ⟨rfl, hw⟩; subst w'
    clear c0
    go_wp2_with fail
    go_ret3
    exact ⟨rfl, 0, rfl⟩
  · rw [if_neg h] at c0
    have h3 : hasC c l = true := by simp [hasC]; omega
    have hex1 := extract_cut l 0 (posB c l)
    have hex2 := extract_cut l (posB c l + 1) l.length
    have e1 : cutB l 0 (posB c l) = before c l := by simp [cutB, before]
    have e2 : cutB l (posB c l + 1) l.length = behind c l := by simp [cutB, behind]
    rw [e1] at hex1
    rw [e2] at hex2
    rw [h3]
    obtain ⟨p, hp⟩ : ∃ p, p = posB c l := ⟨_, rfl⟩
    obtain ⟨x, hx⟩ : ∃ x, x = before c l := ⟨_, rfl⟩
    obtain ⟨y, hy⟩ : ∃ y, y = behind c l := ⟨_, rfl⟩
    rw [← hx] at hex1 ⊢
    rw [← hy] at hex2 ⊢
    rw [← hp] at c0 hex1 hex2 h hle
    have hlt : (p : Int) + 1 ≤ (l.length : Int) := by omega
    clear hp hx hy e1 e2 h3
    unfold S
    go_enter Tryz.func225, Tryz.ntmps225
    go_wp2_with fail
    refine c0.mono ?_
    rintro e w' ⟨rfl, hw⟩; subst w'
    clear c0
    go_wp2_with fail
    go_quiet (fail)
    go_wp2_with fail
    go_ret3
    exact ⟨rfl, nq, rfl⟩

set_option maxRecDepth 20000 in
set_option maxHeartbeats 1000000 in
theorem icut_any (c : UInt8) (l : Bs) (w : World) (hl : l.length ≤ 1048576) :
    Calls Tryz.prog 187 #[S l, .string ⟨#[c]⟩] w fun e w' => e = .returned (.tuple #[S (before c l), S (behind c l), .bool (hasC c l)]) ∧ ∃ n, w' = w.drewN n := by
  have c0 := lcut_any c l w hl
  go_enter Tryz.func187, Tryz.ntmps187
  go_wp2_with fail
  refine c0.mono ?_
  rintro e w1 ⟨rfl, hw⟩
  clear c0
  go_wp2_with fail
  go_ret3
  exact ⟨rfl, hw⟩

/- The text of the frame that a text begins with, if it begins with one. -/
def textB (s : Bs) : Bs := behind 32 (behind 32 (before 10 s))
theorem lineN_pos (s : Bs) : lineN s = posB 10 s := rfl
theorem before_len {c : UInt8} {l : Bs} : (before c l).length = posB c l := by
  have := posB_le c l
  simp [before]; omega
theorem behind_len (c : UInt8) (l : Bs) : (behind c l).length ≤ l.length := by simp [behind]
theorem textB_framed {t : Bs} (h : plainB t = true) (r : Bs) : textB (framed t ++ r) = t := by
  have h1 : before 10 (framed t ++ r) = body t := by
    have hb : ∀ b ∈ body t, b ≠ 10 := by
      intro b hb
      have := body_ne h
      rw [List.all_eq_true] at this
      simpa using this b hb
    unfold before
    rw [framed_body, List.append_assoc, List.singleton_append, posB_app 10 _ _ hb, List.take_left]
  unfold textB
  rw [h1]
  unfold body
  rw [behind_app 32 _ _ (fun b hb => (dec_ne _ b hb).2), behind_app 32 _ _ (fun b hb => (dec_ne _ b hb).2)]
theorem firstB_end {s : Bs} (h : posB 10 s = s.length) : firstB s = ([], 0) := by
  have : lineN s = s.length := h
  simp [firstB, this]
theorem firstB_hit {s : Bs} (h : posB 10 s < s.length) (e : framedS (textB s) = s.take (posB 10 s + 1)) : firstB s = (textB s, posB 10 s + 1) := by
  have hp : plainB (textB s) = true := by
    by_cases hp : plainB (textB s) = true
    · exact hp
    · have hn : framedS (textB s) = [] := by simp [framedS, hp]
      rw [hn] at e
      have := congrArg List.length e
      simp at this
      omega
  rw [framedS_yes hp] at e
  have hs : s = framed (textB s) ++ s.drop (posB 10 s + 1) := by rw [e, List.take_append_drop]
  have hl := congrArg List.length e
  rw [List.length_take, Nat.min_eq_left (by omega)] at hl
  have := firstB_yes hp (s.drop (posB 10 s + 1))
  rw [← hs, hl] at this
  exact this
theorem firstB_not {s : Bs} (e : framedS (textB s) ≠ s.take (posB 10 s + 1)) : firstB s = ([], 0) := by
  by_cases h0 : (firstB s).2 = 0
  · exact firstB_zero s h0
  · obtain ⟨hp, hf, hn⟩ := firstB_sound s h0
    exfalso
    have hs : s = framed (firstB s).1 ++ s.drop (firstB s).2 := by rw [hf, List.take_append_drop]
    have ht : textB s = (firstB s).1 := by
      have := textB_framed hp (s.drop (firstB s).2)
      rwa [← hs] at this
    apply e
    rw [ht, framedS_yes hp, hf]
    congr 1
    have hb : ∀ b ∈ body (firstB s).1, b ≠ 10 := by
      intro b hb
      have := body_ne hp
      rw [List.all_eq_true] at this
      simpa using this b hb
    have : posB 10 s = (body (firstB s).1).length := by
      have := posB_app 10 _ (s.drop (firstB s).2) hb
      rw [← this]
      congr 1
      rw [hs]
      conv => rhs; rw [← hs]
      rw [framed_body]
      simp
    rw [this, hn, framed_len]

set_option maxRecDepth 20000 in
set_option maxHeartbeats 2000000 in
theorem ifirst_any (s : Bs) (w : World) (hl : s.length ≤ 1048576) (ht : Tab w) :
    Calls Tryz.prog 186 #[S s] w fun e w' => e = .returned (.tuple #[S (firstB s).1, .int .i64 (firstB s).2]) ∧ Below w.heap.size w w' := by
  have hsz : (⟨s.toArray⟩ : ByteArray).size = s.length := rfl
  have hle := posB_le 10 s
  have hbl : (before 10 s).length = posB 10 s := before_len
  have c1 := fun wx => icut_any 10 s wx hl
  have c2 := fun wx => icut_any 32 (before 10 s) wx (by omega)
  have hb2 := behind_len 32 (before 10 s)
  have c3 := fun wx => icut_any 32 (behind 32 (before 10 s)) wx (by omega)
  have hb3 := behind_len 32 (behind 32 (before 10 s))
  have HT : Hid (Tab w) := ht
  clear ht
  by_cases h : posB 10 s = s.length
  · have HE : Hid (firstB s = ([], 0)) := firstB_end h
    have hh : hasC 10 s = false := (behind_miss h).2.2
    simp only [hh] at c1
    unfold S at c1 ⊢
    clear hh c2 c3
    go_enter Tryz.func186, Tryz.ntmps186
    go_wp2_with fail
    refine (c1 w).mono ?_
    rintro e w1 ⟨rfl, n1, hw1⟩
    have HB : Hid (Below w.heap.size w w1) := by rw [hw1]; exact below_drewN (Below.refl _ _) _
    clear c1 hw1
    go_wp2_with fail
    go_ret2
    rw [HE.out]
    exact ⟨rfl, HB.out⟩
  · have hh : hasC 10 s = true := by simp [hasC]; omega
    simp only [hh] at c1
    have c4 := fun wx (hx : Tab wx) => iframed_any (textB s) wx (by unfold textB; omega) hx
    have e4 : behind 32 (behind 32 (before 10 s)) = textB s := rfl
    simp only [e4] at c3
    have hex := extract_cut s 0 (posB 10 s + 1)
    have e5 : cutB s 0 (posB 10 s + 1) = s.take (posB 10 s + 1) := by simp [cutB]
    rw [e5] at hex
    have H1 : Hid (framedS (textB s) = s.take (posB 10 s + 1) → firstB s = (textB s, posB 10 s + 1)) := fun e => firstB_hit (by omega) e
    have H2 : Hid (framedS (textB s) ≠ s.take (posB 10 s + 1) → firstB s = ([], 0)) := fun e => firstB_not e
    obtain ⟨p, hp⟩ : ∃ p, p = posB 10 s := ⟨_, rfl⟩
    obtain ⟨t, hte⟩ : ∃ t, t = textB s := ⟨_, rfl⟩
    obtain ⟨f, hf⟩ : ∃ f, f = framedS t := ⟨_, rfl⟩
    obtain ⟨z, hz⟩ : ∃ z, z = s.take (posB 10 s + 1) := ⟨_, rfl⟩
    obtain ⟨ln, hln⟩ : ∃ ln, ln = before 10 s := ⟨_, rfl⟩
    rw [← hz] at hex H1 H2
    simp only [← hln] at c1 c2 hbl c3
    simp only [← hte] at c3 c4 H1 H2
    simp only [← hf] at c4 H1 H2
    rw [← hp] at hex H1 hbl hle h
    have hzl : (⟨ln.toArray⟩ : ByteArray).size = p := hbl
    have hlt : (p : Int) + 1 ≤ (s.length : Int) := by omega
    have hj0 : (0 : Int) ≤ (p : Int) + 1 := by omega
    have hwr : IntKind.i64.wrap ((p : Int) + 1) = (p : Int) + 1 := by rw [IntKind.wrap_i64]; omega
    unfold S at c1 c2 c3 c4 ⊢
    clear hh e4 e5 hp hte hf hz hln hb2 hb3 hbl
    go_enter Tryz.func186, Tryz.ntmps186
    go_wp2_with fail
    refine (c1 w).mono ?_
    rintro e w1 ⟨rfl, n1, hw1⟩
    have HB : Hid (Below w.heap.size w w1) := by rw [hw1]; exact below_drewN (Below.refl _ _) _
    clear c1 hw1
    go_wp2_with fail
    refine (c2 w1).mono ?_
    rintro e w2 ⟨rfl, n2, hw2⟩
    replace HB : Hid (Below w.heap.size w w2) := by rw [hw2]; exact below_drewN HB.out _
    clear c2 hw2
    go_wp2_with fail
    refine (c3 w2).mono ?_
    rintro e w3 ⟨rfl, n3, hw3⟩
    replace HB : Hid (Below w.heap.size w w3) := by rw [hw3]; exact below_drewN HB.out _
    clear c3 hw3
    have c5 := c4 (w3.drew) (HT.out.below (below_drewN HB.out 1))
    have HB1 : Hid (Below w.heap.size w w3.drew) := below_drewN HB.out 1
    clear c4
    by_cases hf : f = z
    · have HE := H1.out hf
      subst hf
      clear H1 H2
      go_wp2_with fail
      go_region_held3 (fun w' => True) (trivial)
        ((go_at_call 224; refine c5.mono ?_; rintro e w4 ⟨rfl, b4⟩))
      have HB3 : Hid (Below w.heap.size w w4) := HB1.out.trans (b4.mono HB1.out.size)
      go_wp2_with fail
      go_ret2
      rw [HE]
      exact ⟨rfl, HB3.out⟩
    · have HE := H2.out hf
      have hbeq : (f == z) = false := by simpa using hf
      clear H1 H2
      go_wp2_with fail
      go_region_held3 (fun w' => True) (trivial)
        ((go_at_call 224; refine c5.mono ?_; rintro e w4 ⟨rfl, b4⟩))
      have HB3 : Hid (Below w.heap.size w w4) := HB1.out.trans (b4.mono HB1.out.size)
      go_wp2_with fail
      go_ret2
      rw [HE]
      exact ⟨rfl, HB3.out⟩
end Go.Proofs.YtlkkpolnllbljaaGreatDoor
/- The iterator of the program: wholeFrames hands back a function that gives each frame's text and where the frame ends. -/
namespace Go.Proofs.YtlkkpolnllbljaaGreatDoor
open Go.ChangeShapes Go.WideShapes Go.ChangeAt Go.RowKit
attribute [local go_sem] Oper.semAt_some

def Keep (Bn n0 : Nat) (W W' : World) : Prop := (∀ v, W.cell? ⟨Bn, 0, none⟩ = some v → W'.cell? ⟨Bn, 0, none⟩ = some v) ∧ Below n0 W W'
theorem Keep.trans {Bn n0 : Nat} {A B C : World} (h : Keep Bn n0 A B) (k : Keep Bn n0 B C) : Keep Bn n0 A C := ⟨fun v hv => k.1 v (h.1 v hv), h.2.trans k.2⟩
theorem Keep.book {Bn n0 : Nat} {w : World} (hn : n0 ≤ w.heap.size) (W : World) (l : Nat) (o o' : Obj) (hl : w.heap.size ≤ l) (h : W.heap[l]? = some o) (h1 : o.isCells = false) (h2 : o.isWalk = false) : Keep Bn n0 W (W.putObj l o') :=
  ⟨fun v hv => cell_kept hv (grownBy_putObj' W l o') (fun r e => by cases e; exact ⟨o, h, h1⟩), belowK_b hn W l o o' hl h h1 h2⟩
theorem grown_of_below {w w' : World} (h : Below w.heap.size w w') (row : Option Nat) : w.grownBy w' row := ⟨h.os, h.tape, h.output, h.size, fun k hk _ => h.block k hk⟩

set_option maxRecDepth 20000 in
set_option maxHeartbeats 1000000 in
theorem iclone_any (l : Bs) (w : World) (hl : l.length ≤ 1048576) :
    Calls Tryz.prog 73 #[S l] w fun e w' => e = .returned (S l) ∧ Below w.heap.size w w' := by
  have hsz : (⟨l.toArray⟩ : ByteArray).size = l.length := rfl
  have c0 := Tryz.stringslite_Clone ⟨l.toArray⟩ w (by omega)
  unfold S
  go_enter Tryz.func73, Tryz.ntmps73
  go_wp2_with fail
  refine c0.mono ?_
  rintro e w1 ⟨rfl, b1⟩
  clear c0
  go_wp2_with fail
  go_ret
  exact ⟨rfl, b1⟩

set_option maxRecDepth 100000 in
set_option maxHeartbeats 2000000 in
theorem iter_in (n : Nat) (hn : 1 ≤ n) (l Bn n0 : Nat) (s : Bs) (hl : s.length ≤ 1048576) (J Jx : List (Bs × Nat) → World → Prop)
    (W : World) (hJ : AbidesFrom W.heap.size J) (hBn : W.cell? ⟨Bn, 0, none⟩ = some (S s)) (ht : ∀ W', Below n0 W W' → Tab W') (hn0 : n0 ≤ W.heap.size)
    (hY : ∀ pre x W1, J pre W1 → pre.length < (wholeE s).length → x.1.length ≤ 1048576 → x.2 ≤ 1048576 → YieldAt Fence.wide (n - 1) Tryz.prog l #[S x.1, .int .i64 (x.2 : Nat)] W1 fun e W' =>
      (e = .returned (.bool true) ∧ J (pre ++ [x]) W' ∧ Keep Bn n0 W1 W') ∨ (e = .returned (.bool false) ∧ Jx (pre ++ [x]) W')) (h0 : J [] W) :
    CallsIn Fence.wide n Tryz.prog 185 #[.func (.yield l) #[] #[], .pointer (some ⟨Bn, 0, none⟩)] W fun e W' => (∃ v, e = .returned v) ∧
      ((∃ ys, ys = wholeE s ∧ J ys W') ∨ (∃ pre : List (Bs × Nat), True ∧ Jx pre W')) := by
  have hsz : (⟨s.toArray⟩ : ByteArray).size = s.length := rfl
  refine callsIn_of_wp Tryz.func185 rfl trivial ?_ rfl
  simp only [Tryz.ntmps185, List.size_toArray, List.length_cons, List.length_nil, Nat.reduceAdd, Nat.reduceSub, Array.replicate_succ, Array.replicate_zero, List.push_toArray, List.append_toArray, List.nil_append, List.cons_append]
  gi_wp2
  gi_loopw [3, 6] (fun e k wr => ∃ (a : Nat) (pre : List (Bs × Nat)), e = .int .i64 a ∧ k = .int .i64 pre.length ∧ (a : Int) ≤ s.length ∧ (pre.length : Int) ≤ 2000 ∧ Hid (J pre wr ∧ wr.cell? ⟨Bn, 0, none⟩ = some (S s) ∧ Below n0 W wr ∧ EInv s pre a)) (fun _ k _ => 2000 - (intOf k).toNat)
  case atStart => exact ⟨0, [], rfl, rfl, by omega, by simp, h0, hBn, Below.refl _ _, EInv.start s⟩
  case round =>
    obtain ⟨a, pre, rfl, rfl, ha, hp, HR⟩ := hrel
    by_cases hlt : (pre.length : Int) < 2000
    · have hex := extract_cut s a s.length
      have e0 : cutB s a s.length = s.drop a := by simp [cutB]
      rw [e0] at hex
      have hc := HR.out.2.1
      have c1 := ifirst_any (s.drop a) wr (by simp; omega) (ht wr HR.out.2.2.1)
      have hfl := firstB_le (s.drop a)
      have hdl : (s.drop a).length = s.length - a := by simp
      have HN : Hid ((firstB (s.drop a)).2 ≠ 0 → _) := fun h => HR.out.2.2.2.next (by omega) h
      have HZ : Hid ((firstB (s.drop a)).2 = 0 → _) := fun h => HR.out.2.2.2.stop (.inl h)
      obtain ⟨q, hq⟩ : ∃ q, q = s.drop a := ⟨_, rfl⟩
      rw [← hq] at hex c1 hfl hdl HN HZ
      obtain ⟨t, hte⟩ : ∃ t, t = (firstB q).1 := ⟨_, rfl⟩
      obtain ⟨m, hm⟩ : ∃ m, m = (firstB q).2 := ⟨_, rfl⟩
      rw [← hte, ← hm] at c1 HN
      rw [← hm] at hfl HZ
      unfold S at c1 hc
      clear e0 hq hm
      gi_wp2_with fail
      refine ⟨trivial, (callsIn_wide.2 c1).mono ?_⟩
      rintro e w1 ⟨rfl, b1⟩
      have HR1 : Hid (J pre w1 ∧ w1.cell? ⟨Bn, 0, none⟩ = some (S s) ∧ Below n0 W w1) := ⟨hJ pre wr w1 none HR.out.1 (grown_of_below b1 none) (fun r h => by cases h), (grown_of_below b1 none).cell HR.out.2.1 (by simp), HR.out.2.2.1.trans (b1.mono (Nat.le_trans hn0 HR.out.2.2.1.size))⟩
      clear b1 c1 hc HR
      by_cases hm0 : m = 0
      · subst hm0
        have HF := HZ.out rfl
        gi_wp2_with fail
        refine bodyPost_ret (results_none rfl _ _ _) rfl ?_
        exact ⟨⟨_, rfl⟩, .inl ⟨pre, HF, HR1.out.1⟩⟩
      · have h0' : ((m : Int) == 0) = false := by simpa using hm0
        have htl : t.length ≤ 1048576 := by
          have := firstB_text_len q
          rw [hte]; omega
        have c2 := iclone_any t w1 htl
        unfold S at c2
        obtain ⟨HI, hlen⟩ := HN.out hm0
        have HI' : Hid (EInv s (pre ++ [(t, a + m)]) (a + m)) := HI
        clear HI HN HZ hte hex
        gi_wp2_with fail
        refine ⟨trivial, (callsIn_wide.2 c2).mono ?_⟩
        rintro e w2 ⟨rfl, b2⟩
        have HR2 : Hid (J pre w2 ∧ w2.cell? ⟨Bn, 0, none⟩ = some (S s) ∧ Below n0 W w2) := ⟨hJ pre w1 w2 none HR1.out.1 (grown_of_below b2 none) (fun r h => by cases h), (grown_of_below b2 none).cell HR1.out.2.1 (by simp), HR1.out.2.2.trans (b2.mono (Nat.le_trans hn0 HR1.out.2.2.size))⟩
        clear b2 c2 HR1
        obtain ⟨fn, tmps, assign, body, hy, hR⟩ := hY pre (t, a + m) w2 HR2.out.1 hlen htl (by dsimp only; omega)
        dsimp only at hy
        unfold S at hy
        have hcast : ((a + m : Nat) : Int) = (a : Int) + (m : Int) := by omega
        rw [hcast] at hy
        gi_wp2
        refine hR.mono ?_
        rintro e W3 (⟨rfl, hJ3, hk3⟩ | ⟨rfl, hJx3⟩)
        · have HR3 : Hid (J (pre ++ [(t, a + m)]) W3 ∧ W3.cell? ⟨Bn, 0, none⟩ = some (S s) ∧ Below n0 W W3 ∧ EInv s (pre ++ [(t, a + m)]) (a + m)) := ⟨hJ3, hk3.1 _ HR2.out.2.1, HR2.out.2.2.trans hk3.2, HI'.out⟩
          clear hJ3 hk3 HR2 hy hR
          gi_wp2
          go_roundw
          case rel => exact ⟨a + m, pre ++ [(t, a + m)], by go_num, by simp, by omega, by simp; omega, HR3⟩
          case measure => simp [intOf]; omega
        · gi_wp2
          refine bodyPost_ret (results_none rfl _ _ _) rfl ?_
          exact ⟨⟨_, rfl⟩, .inr ⟨_, trivial, hJx3⟩⟩
    · have HF : Hid (pre = wholeE s) := HR.out.2.2.2.stop (.inr (by omega))
      gi_wp2
      go_end0
      exact ⟨⟨_, rfl⟩, .inl (by have h := HR.out.1; rwa [HF.out] at h)⟩
end Go.Proofs.YtlkkpolnllbljaaGreatDoor
/- What Frames and Last of the program answer: they range over its iterator. -/
namespace Go.Proofs.YtlkkpolnllbljaaGreatDoor
open Go.ChangeShapes Go.WideShapes Go.ChangeAt Go.RowKit
attribute [local go_sem] Oper.semAt_some

set_option maxRecDepth 20000 in
set_option maxHeartbeats 1000000 in
theorem whole_any (s : Bs) (w : World) :
    Calls Tryz.prog 149 #[.string ⟨s.toArray⟩] w fun e w' => e = .returned (.func (.func 185) #[] #[.pointer (some ⟨w.heap.size, 0, none⟩)]) ∧ w' = w.alloc (.cells #[.string ⟨s.toArray⟩] 9) := by
  go_enter Tryz.func149, Tryz.ntmps149
  go_wp2
  go_ret
  exact ⟨rfl, rfl⟩

theorem whole_stops (n : Nat) (hn : 1 ≤ n) (Bn n0 : Nat) (s : Bs) (hl : s.length ≤ 1048576) (w : World) (hBn : w.cell? ⟨Bn, 0, none⟩ = some (S s)) (hlt : Bn < w.heap.size) (hn0 : n0 ≤ w.heap.size) (ht : ∀ W', Below n0 w W' → Tab W') :
    SeqStopsK Fence.wide n Tryz.prog 185 #[.pointer (some ⟨Bn, 0, none⟩)] (fun x : Bs × Nat => #[S x.1, .int .i64 (x.2 : Nat)]) (Keep Bn n0) (fun ys => ys = wholeE s) (fun _ => True) (wholeE s).length w :=
  fun l J Jx W hW hJ _ hY h0 => iter_in n hn l Bn n0 s hl J Jx W hJ ((hW.cell (p := ⟨Bn, 0, none⟩) hlt).trans hBn) (fun W' hb => ht W' ((hW.mono hn0).trans hb)) (Nat.le_trans hn0 hW.size) (fun pre x W1 h1 h2 _ _ => hY pre x W1 h1 h2) h0
end Go.Proofs.YtlkkpolnllbljaaGreatDoor
/- What the program reads of a number: readNumber. -/
namespace Go.Proofs.YtlkkpolnllbljaaGreatDoor
open Go.ChangeShapes Go.WideShapes Go.ChangeAt Go.RowKit

theorem nozero {l : Bs} {k : Nat} (ho : offN l = k) (hk : k < l.length) (h : l[k] ≠ 48 ∨ l.length ≤ 1) : ¬ ((digs l).head? = some 48 ∧ 1 < l.length) := by
  rintro ⟨h1, h2⟩
  subst ho
  rw [head_digs l hk] at h1
  rcases h with h | h
  · exact h (by simpa using h1)
  · omega
theorem leadzero {l : Bs} {k : Nat} (ho : offN l = k) (hk : k < l.length) (h : l[k] = 48) (h1 : 1 < l.length) : okN l = false := by
  subst ho
  rw [← Bool.not_eq_true, okN_iff]
  rintro ⟨_, _, _, h4⟩
  exact h4 ⟨by rw [head_digs l hk, h], h1⟩

set_option maxRecDepth 20000 in
set_option maxHeartbeats 4000000 in
theorem iread_any (l : Bs) (w : World) (hl : l.length ≤ 1048576) :
    Calls Tryz.prog 189 #[S l] w fun e w' => e = .returned (.tuple #[.int .i64 (num l), .bool (okN l)]) ∧ w' = w := by
  have hsz : (⟨l.toArray⟩ : ByteArray).size = l.length := rfl
  unfold S
  go_enter Tryz.func189, Tryz.ntmps189
  go_wp2
  go_loop [4, 5, 6, 7, 12] (fun st sg v dg i => ∃ j : Nat, (j : Int) ≤ l.length ∧ i = .int .i64 j ∧
    ((j = 0 ∧ st = .int .i64 0 ∧ sg = .int .i64 1 ∧ v = .int .i64 0 ∧ dg = .int .i64 0) ∨
     (j = 1 ∧ st = .int .i64 1 ∧ sg = .int .i64 (-1) ∧ v = .int .i64 0 ∧ dg = .int .i64 0 ∧ Hid (neg l = true)) ∨
     (∃ (x d : Int) (k : Nat) (s : Int), st = .int .i64 2 ∧ sg = .int .i64 s ∧ v = .int .i64 x ∧ dg = .int .i64 d ∧ (j : Int) = offN l + d ∧ 1 ≤ d ∧ d ≤ 9 ∧ 0 ≤ x ∧ x < 1000000000 ∧ s = (if neg l then -1 else 1) ∧ RdInv l j x ∧ ¬ ((digs l).head? = some 48 ∧ 1 < l.length)))) (fun _ _ _ _ i => l.length - (intOf i).toNat)
  case atStart => exact ⟨0, by omega, rfl, .inl ⟨rfl, rfl, rfl, rfl, rfl⟩⟩
  case round =>
    obtain ⟨j, hj1, rfl, hcase⟩ := hrel
    rcases hcase with ⟨rfl, rfl, rfl, rfl, rfl⟩ | ⟨rfl, rfl, rfl, rfl, rfl, HG⟩ | ⟨x, d, k, sg, rfl, rfl, rfl, rfl, hjd, hd1, hd9, hx0, hx1, hsg, hI, hZ⟩
    · by_cases hlt : (0 : Int) < (l.length : Int)
      · have hj : 0 < l.length := by omega
        have ht := byteAt_is l 0 hj 45 45 rfl
        by_cases hb : l[0] = 45
        · have HG : Hid (neg l = true) := by rw [Hid, neg_at l hj]; simp [hb]
          rw [show decide (l[0] = 45) = true by simp [hb]] at ht
          clear hb
          go_wp2
          go_round
          case rel => exact ⟨1, by omega, by go_num, .inr (.inl ⟨rfl, rfl, rfl, rfl, rfl, HG⟩)⟩
          case measure => simp [intOf]; omega
        · have hng : neg l = false := by rw [neg_at l hj]; simp [hb]
          have HO : Hid (offN l = 0 ∧ neg l = false) := ⟨by unfold offN; rw [hng]; rfl, hng⟩
          rw [show decide (l[0] = 45) = false by simp [hb]] at ht
          have ht0 := byteAt_is l 0 hj 48 48 rfl
          clear hng hb
          have hbv := byteV_is l 0 hj
          by_cases hz : l[0] = 48
          · rw [show decide (l[0] = 48) = true by simp [hz]] at ht0
            by_cases h1l : 1 < (l.length : Int)
            · have HE : Hid (okN l = false ∧ num l = 0) := by
                have := leadzero HO.out.1 hj hz (by omega)
                exact ⟨this, num_not this⟩
              clear hz hbv
              go_wp2
              go_ret2
              rw [HE.out.1, HE.out.2]
              exact ⟨rfl, rfl⟩
            · have HZ : Hid (¬ ((digs l).head? = some 48 ∧ 1 < l.length)) := nozero HO.out.1 hj (.inr (by omega))
              clear hz
              by_cases hlo : byteV l 0 hj < 48
              · have HE : Hid (okN l = false ∧ num l = 0) := by
                  have := RdInv.bad (l := l) (j := 0) (by rw [HO.out.1]; omega) hj (by rw [hbv] at hlo; simp [isDig]; omega)
                  exact ⟨this, num_not this⟩
                unfold byteV at *
                clear hbv
                go_wp2
                go_ret2
                rw [HE.out.1, HE.out.2]
                exact ⟨rfl, rfl⟩
              · by_cases hhi : 57 < byteV l 0 hj
                · have HE : Hid (okN l = false ∧ num l = 0) := by
                    have := RdInv.bad (l := l) (j := 0) (by rw [HO.out.1]; omega) hj (by rw [hbv] at hhi; simp [isDig]; omega)
                    exact ⟨this, num_not this⟩
                  unfold byteV at *
                  clear hbv
                  go_wp2
                  go_ret2
                  rw [HE.out.1, HE.out.2]
                  exact ⟨rfl, rfl⟩
                · have HN : Hid (∀ y, y = 0 * 10 + (byteV l 0 hj - 48) → RdInv l (0 + 1) y) := by
                    intro y hy
                    rw [hy, hbv]
                    exact RdInv.next (by have := RdInv.start l; rwa [HO.out.1] at this) (by rw [HO.out.1]; omega) hj (by rw [hbv] at hlo hhi; simp [isDig]; omega)
                  have hlo2 : 48 ≤ byteV l 0 hj := by omega
                  have hhi2 : byteV l 0 hj ≤ 57 := by omega
                  clear hbv
                  unfold byteV at *
                  go_wp2
                  go_round
                  case rel => exact ⟨0 + 1, by omega, by go_num, .inr (.inr ⟨_, _, 1, 1, rfl, rfl, rfl, rfl, by rw [HO.out.1]; omega, by omega, by omega, by omega, by omega, by simp [HO.out.2], HN.out _ (by omega), HZ.out⟩)⟩
                  case measure => simp [intOf]; omega
          · rw [show decide (l[0] = 48) = false by simp [hz]] at ht0
            have HZ : Hid (¬ ((digs l).head? = some 48 ∧ 1 < l.length)) := nozero HO.out.1 hj (.inl hz)
            clear hz
            by_cases hlo : byteV l 0 hj < 48
            · have HE : Hid (okN l = false ∧ num l = 0) := by
                have := RdInv.bad (l := l) (j := 0) (by rw [HO.out.1]; omega) hj (by rw [hbv] at hlo; simp [isDig]; omega)
                exact ⟨this, num_not this⟩
              unfold byteV at *
              clear hbv
              go_wp2
              go_ret2
              rw [HE.out.1, HE.out.2]
              exact ⟨rfl, rfl⟩
            · by_cases hhi : 57 < byteV l 0 hj
              · have HE : Hid (okN l = false ∧ num l = 0) := by
                  have := RdInv.bad (l := l) (j := 0) (by rw [HO.out.1]; omega) hj (by rw [hbv] at hhi; simp [isDig]; omega)
                  exact ⟨this, num_not this⟩
                unfold byteV at *
                clear hbv
                go_wp2
                go_ret2
                rw [HE.out.1, HE.out.2]
                exact ⟨rfl, rfl⟩
              · have HN : Hid (∀ y, y = 0 * 10 + (byteV l 0 hj - 48) → RdInv l (0 + 1) y) := by
                  intro y hy
                  rw [hy, hbv]
                  exact RdInv.next (by have := RdInv.start l; rwa [HO.out.1] at this) (by rw [HO.out.1]; omega) hj (by rw [hbv] at hlo hhi; simp [isDig]; omega)
                have hlo2 : 48 ≤ byteV l 0 hj := by omega
                have hhi2 : byteV l 0 hj ≤ 57 := by omega
                clear hbv
                unfold byteV at *
                go_wp2
                go_round
                case rel => exact ⟨0 + 1, by omega, by go_num, .inr (.inr ⟨_, _, 1, 1, rfl, rfl, rfl, rfl, by rw [HO.out.1]; omega, by omega, by omega, by omega, by omega, by simp [HO.out.2], HN.out _ (by omega), HZ.out⟩)⟩
                case measure => simp [intOf]; omega
      · have HE : Hid (okN l = false ∧ num l = 0) := by
          have := okN_short l (by omega)
          exact ⟨this, num_not this⟩
        go_wp2
        go_ret2
        rw [HE.out.1, HE.out.2]
        exact ⟨rfl, rfl⟩
    · have HO : Hid (offN l = 1 ∧ neg l = true) := ⟨by unfold offN; rw [HG.out]; rfl, HG.out⟩
      clear HG
      by_cases hlt : (1 : Int) < (l.length : Int)
      · have hj : 1 < l.length := by omega
        have ht0 := byteAt_is l 1 hj 48 48 rfl
        have hbv := byteV_is l 1 hj
        by_cases hz : l[1] = 48
        · rw [show decide (l[1] = 48) = true by simp [hz]] at ht0
          have HE : Hid (okN l = false ∧ num l = 0) := by
            have := leadzero HO.out.1 hj hz (by omega)
            exact ⟨this, num_not this⟩
          clear hz hbv
          go_wp2
          go_ret2
          rw [HE.out.1, HE.out.2]
          exact ⟨rfl, rfl⟩
        · rw [show decide (l[1] = 48) = false by simp [hz]] at ht0
          have HZ : Hid (¬ ((digs l).head? = some 48 ∧ 1 < l.length)) := nozero HO.out.1 hj (.inl hz)
          clear hz
          by_cases hlo : byteV l 1 hj < 48
          · have HE : Hid (okN l = false ∧ num l = 0) := by
              have := RdInv.bad (l := l) (j := 1) (by rw [HO.out.1]; omega) hj (by rw [hbv] at hlo; simp [isDig]; omega)
              exact ⟨this, num_not this⟩
            unfold byteV at *
            clear hbv
            go_wp2
            go_ret2
            rw [HE.out.1, HE.out.2]
            exact ⟨rfl, rfl⟩
          · by_cases hhi : 57 < byteV l 1 hj
            · have HE : Hid (okN l = false ∧ num l = 0) := by
                have := RdInv.bad (l := l) (j := 1) (by rw [HO.out.1]; omega) hj (by rw [hbv] at hhi; simp [isDig]; omega)
                exact ⟨this, num_not this⟩
              unfold byteV at *
              clear hbv
              go_wp2
              go_ret2
              rw [HE.out.1, HE.out.2]
              exact ⟨rfl, rfl⟩
            · have HN : Hid (∀ y, y = 0 * 10 + (byteV l 1 hj - 48) → RdInv l (1 + 1) y) := by
                intro y hy
                rw [hy, hbv]
                exact RdInv.next (by have := RdInv.start l; rwa [HO.out.1] at this) (by rw [HO.out.1]; omega) hj (by rw [hbv] at hlo hhi; simp [isDig]; omega)
              have hlo2 : 48 ≤ byteV l 1 hj := by omega
              have hhi2 : byteV l 1 hj ≤ 57 := by omega
              clear hbv
              unfold byteV at *
              go_wp2
              go_round
              case rel => exact ⟨1 + 1, by omega, by go_num, .inr (.inr ⟨_, _, 1, (-1), rfl, rfl, rfl, rfl, by rw [HO.out.1]; omega, by omega, by omega, by omega, by omega, by simp [HO.out.2], HN.out _ (by omega), HZ.out⟩)⟩
              case measure => simp [intOf]; omega
      · have HE : Hid (okN l = false ∧ num l = 0) := by
          have := okN_short l (by have := HO.out.1; omega)
          exact ⟨this, num_not this⟩
        go_wp2
        go_ret2
        rw [HE.out.1, HE.out.2]
        exact ⟨rfl, rfl⟩
    · have HI : Hid (RdInv l j x ∧ ¬ ((digs l).head? = some 48 ∧ 1 < l.length) ∧ (j : Int) = offN l + d ∧ sg = (if neg l then -1 else 1)) := ⟨hI, hZ, hjd, hsg⟩
      have hoj : offN l ≤ j := by omega
      have HJ : Hid (offN l ≤ j) := hoj
      clear hI hZ hsg hjd hoj
      by_cases hlt : (j : Int) < (l.length : Int)
      · have hj : j < l.length := by omega
        have hbv := byteV_is l j hj
        by_cases hlo : byteV l j hj < 48
        · have HE : Hid (okN l = false ∧ num l = 0) := by
            have := RdInv.bad (l := l) (j := j) HJ.out hj (by rw [hbv] at hlo; simp [isDig]; omega)
            exact ⟨this, num_not this⟩
          unfold byteV at *
          clear hbv
          go_wp2
          go_ret2
          rw [HE.out.1, HE.out.2]
          exact ⟨rfl, rfl⟩
        · by_cases hhi : 57 < byteV l j hj
          · have HE : Hid (okN l = false ∧ num l = 0) := by
              have := RdInv.bad (l := l) (j := j) HJ.out hj (by rw [hbv] at hhi; simp [isDig]; omega)
              exact ⟨this, num_not this⟩
            unfold byteV at *
            clear hbv
            go_wp2
            go_ret2
            rw [HE.out.1, HE.out.2]
            exact ⟨rfl, rfl⟩
          · by_cases hd : d = 9
            · have HE : Hid (okN l = false ∧ num l = 0) := by
                have := okN_long l (by have := HI.out.2.2.1; omega)
                exact ⟨this, num_not this⟩
              unfold byteV at *
              clear hbv
              subst hd
              go_wp2
              go_ret2
              rw [HE.out.1, HE.out.2]
              exact ⟨rfl, rfl⟩
            · have hdn : (d == 9) = false := by simpa using hd
              have HN : Hid (∀ y, y = x * 10 + (byteV l j hj - 48) → RdInv l (j + 1) y ∧ 0 ≤ y ∧ y < 1000000000) := by
                intro y hy
                have h1 : RdInv l (j + 1) y := by
                  rw [hy, hbv]
                  exact HI.out.1.next HJ.out hj (by rw [hbv] at hlo hhi; simp [isDig]; omega)
                exact ⟨h1, h1.bd (by have := HI.out.2.2.1; omega)⟩
              have hlo2 : 48 ≤ byteV l j hj := by omega
              have hhi2 : byteV l j hj ≤ 57 := by omega
              clear hbv
              unfold byteV at *
              go_wp2
              go_round
              case rel =>
                refine ⟨j + 1, by omega, by go_num, .inr (.inr ⟨_, _, 1, sg, rfl, rfl, rfl, rfl, by have := HI.out.2.2.1; omega, by omega, by omega, ?_, ?_, HI.out.2.2.2, ?_, HI.out.2.1⟩)⟩
                · exact (HN.out _ (by omega)).2.1
                · exact (HN.out _ (by omega)).2.2
                · exact (HN.out _ (by omega)).1
              case measure => simp [intOf]; omega
      · obtain rfl : j = l.length := by omega
        have hdn := HI.out.1.done (by have := HI.out.2.2.1; omega) (by have := HI.out.2.2.1; omega)
        have hok : okN l = true := by
          rw [hdn.1]
          have := HI.out.2.1
          simp only [Bool.not_eq_true', Bool.and_eq_false_iff, decide_eq_false_iff_not]
          by_cases h : (digs l).head? = some 48
          · exact .inr (fun h' => this ⟨h, h'⟩)
          · exact .inl h
        have HE : Hid (okN l = true ∧ num l = sg * x) := by
          refine ⟨hok, ?_⟩
          rw [num, hok, HI.out.2.2.2, hdn.2]
          cases neg l <;> simp
        have hs2 : sg = 1 ∨ sg = -1 := by rw [HI.out.2.2.2]; cases neg l <;> simp
        clear hdn hok
        rcases hs2 with rfl | rfl
        all_goals
          go_wp2
          go_ret2
          rw [HE.out.1, HE.out.2]
          exact ⟨by simp, rfl⟩
end Go.Proofs.YtlkkpolnllbljaaGreatDoor
