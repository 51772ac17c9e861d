/- Contracts of Go's library at this program, laid by the kit's own tool. -/
import Derived.Shelf.Strconv.Itoa0
import Derived.Shelf.Strconv.Itoa1
import Derived.Shelf.LaysM
import Derived.Shelf.Strconv.Itoa2
import Derived.Shelf.Strconv.Itoa3
import Derived.Shelf.Strconv.Itoa4
import Derived.Shelf.Strconv.Clone
import Derived.Shelf.Strings.Search1
import Derived.Shelf.Strings.Search2
import Derived.Shelf.Strings.Search3
import Derived.Shelf.Strings.Cut
import Derived.Shelf.Strings.Count
import Derived.Shelf.Strings.Shaped
import Derived.Shelf.Unicode.DecodeSlow
import Derived.Test.YtkenbanaodbooaaGreatDoorProg
import Derived.Test.YtkenbanaodbooaaGreatDoorM11
import Derived.Lib.AppendIntMem
import Derived.Test.YtkenbanaodbooaaGreatDoorM9
import Derived.Test.YtkenbanaodbooaaGreatDoorM30
import Derived.Deep.RegionHeld3
namespace Go.Proofs
open Go.Shelf
def Tryz.laysM171_ren : Go.Shelf.Ren := ⟨fun | 171 => 148 | 243 => 155 | 246 => 156 | 283 => 164 | 284 => 165 | 285 => 166 | 286 => 167 | 129 => 172 | 317 => 171 | 318 => 173 | 319 => 174 | 320 => 175 | 337 => 176 | 338 => 177 | n => n, fun | 3 => 3 | 9 => 9 | 2 => 2 | 4 => 4 | 171 => 188 | 0 => 0 | 53 => 189 | 37 => 146 | 5 => 5 | 173 => 192 | 212 => 198 | 51 => 194 | 20 => 20 | 213 => 199 | 46 => 136 | 232 => 207 | 233 => 208 | n => n, fun | 17 => 1 | 18 => 4 | 19 => 5 | n => n⟩
theorem Tryz.laysM171 : Go.Proofs.LaysM.n171 Tryz.prog Tryz.laysM171_ren := {
  mixed := by kernel_rfl
  f129 := Tryz.func172.trans (congrArg some (by kernel_rfl))
  f171 := Tryz.func148.trans (congrArg some (by kernel_rfl))
  f243 := Tryz.func155.trans (congrArg some (by kernel_rfl))
  f246 := Tryz.func156.trans (congrArg some (by kernel_rfl))
  f283 := Tryz.func164.trans (congrArg some (by kernel_rfl))
  f284 := Tryz.func165.trans (congrArg some (by kernel_rfl))
  f285 := Tryz.func166.trans (congrArg some (by kernel_rfl))
  f286 := Tryz.func167.trans (congrArg some (by kernel_rfl))
  f317 := Tryz.func171.trans (congrArg some (by kernel_rfl))
  f318 := Tryz.func173.trans (congrArg some (by kernel_rfl))
  f319 := Tryz.func174.trans (congrArg some (by kernel_rfl))
  f320 := Tryz.func175.trans (congrArg some (by kernel_rfl))
  f337 := Tryz.func176.trans (congrArg some (by kernel_rfl))
  f338 := Tryz.func177.trans (congrArg some (by kernel_rfl))
  t0 := Tryz.underlying0
  a0 := Tryz.isAgg0
  z0 := Tryz.sizeOf0
  v0 := Tryz.zeroValue0
  t2 := Tryz.underlying2
  a2 := Tryz.isAgg2
  z2 := Tryz.sizeOf2
  v2 := Tryz.zeroValue2
  t3 := Tryz.underlying3
  a3 := Tryz.isAgg3
  z3 := Tryz.sizeOf3
  v3 := Tryz.zeroValue3
  t4 := Tryz.underlying4
  a4 := Tryz.isAgg4
  z4 := Tryz.sizeOf4
  v4 := Tryz.zeroValue4
  t5 := Tryz.underlying5
  a5 := Tryz.isAgg5
  z5 := Tryz.sizeOf5
  v5 := Tryz.zeroValue5
  t9 := Tryz.underlying9
  a9 := Tryz.isAgg9
  z9 := Tryz.sizeOf9
  v9 := Tryz.zeroValue9
  t20 := Tryz.underlying20
  a20 := Tryz.isAgg20
  z20 := Tryz.sizeOf20
  v20 := Tryz.zeroValue20
  t37 := Tryz.underlying146
  a37 := Tryz.isAgg146
  z37 := Tryz.sizeOf146
  v37 := Tryz.zeroValue146
  t46 := Tryz.underlying136
  a46 := Tryz.isAgg136
  z46 := Tryz.sizeOf136
  v46 := Tryz.zeroValue136
  t51 := Tryz.underlying194
  a51 := Tryz.isAgg194
  z51 := Tryz.sizeOf194
  v51 := Tryz.zeroValue194
  t53 := Tryz.underlying189
  a53 := Tryz.isAgg189
  z53 := Tryz.sizeOf189
  v53 := Tryz.zeroValue189
  t171 := Tryz.underlying188
  a171 := Tryz.isAgg188
  z171 := Tryz.sizeOf188
  v171 := Tryz.zeroValue188
  t173 := Tryz.underlying192
  a173 := Tryz.isAgg192
  z173 := Tryz.sizeOf192
  v173 := Tryz.zeroValue192
  t212 := Tryz.underlying198
  a212 := Tryz.isAgg198
  z212 := Tryz.sizeOf198
  v212 := Tryz.zeroValue198
  t213 := Tryz.underlying199
  a213 := Tryz.isAgg199
  z213 := Tryz.sizeOf199
  t232 := Tryz.underlying207
  a232 := Tryz.isAgg207
  z232 := Tryz.sizeOf207
  v232 := Tryz.zeroValue207
  t233 := Tryz.underlying208
  a233 := Tryz.isAgg208
  z233 := Tryz.sizeOf208
  v233 := Tryz.zeroValue208
  g17 := by kernel_rfl
  g18 := by kernel_rfl
  g19 := by kernel_rfl
  i0 := by kernel_rfl
  i2 := by kernel_rfl
  i3 := by kernel_rfl
  i4 := by kernel_rfl
  i5 := by kernel_rfl
  i9 := by kernel_rfl
  i20 := by kernel_rfl
  i37 := by kernel_rfl
  i46 := by kernel_rfl
  i51 := by kernel_rfl
  i53 := by kernel_rfl
  i171 := by kernel_rfl
  i173 := by kernel_rfl
  i212 := by kernel_rfl
  i232 := by kernel_rfl
  i233 := by kernel_rfl
  m17 := by kernel_rfl
  m18 := by kernel_rfl
  m19 := by kernel_rfl }
open Go.RowKit Go.Sort Go.Lib in
theorem Tryz.strconv_Itoa (n : Int) (h0 : -9223372036854775808 ≤ n) (h1 : n ≤ 9223372036854775807) (w : World) (htab : Lib.TabIs Tryz.prog w "internal/strconv.uint64pow10" .u64 Lib.pow10Tab) :
    Calls Tryz.prog 148 #[.int .i64 n] w fun e w' => e = .returned (.string ⟨(Lib.itoa n).toArray⟩) ∧ ∃ k os, w' = grow (w.drewN k) os := Any.strconv_Itoa Tryz.laysM171 n h0 h1 w htab
def Tryz.laysM173_ren : Go.Shelf.Ren := ⟨fun | 173 => 149 | 246 => 156 | 283 => 164 | 284 => 165 | 285 => 166 | 286 => 167 | 129 => 172 | 317 => 171 | 318 => 173 | 319 => 174 | 320 => 175 | 337 => 176 | 338 => 177 | n => n, fun | 2 => 2 | 3 => 3 | 9 => 9 | 4 => 4 | 171 => 188 | 0 => 0 | 53 => 189 | 37 => 146 | 5 => 5 | 173 => 192 | 212 => 198 | 51 => 194 | 20 => 20 | 213 => 199 | 46 => 136 | 232 => 207 | 233 => 208 | n => n, fun | 17 => 1 | 18 => 4 | 19 => 5 | n => n⟩
theorem Tryz.laysM173 : Go.Proofs.LaysM.n173 Tryz.prog Tryz.laysM173_ren := {
  mixed := by kernel_rfl
  f129 := Tryz.func172.trans (congrArg some (by kernel_rfl))
  f173 := Tryz.func149.trans (congrArg some (by kernel_rfl))
  f246 := Tryz.func156.trans (congrArg some (by kernel_rfl))
  f283 := Tryz.func164.trans (congrArg some (by kernel_rfl))
  f284 := Tryz.func165.trans (congrArg some (by kernel_rfl))
  f285 := Tryz.func166.trans (congrArg some (by kernel_rfl))
  f286 := Tryz.func167.trans (congrArg some (by kernel_rfl))
  f317 := Tryz.func171.trans (congrArg some (by kernel_rfl))
  f318 := Tryz.func173.trans (congrArg some (by kernel_rfl))
  f319 := Tryz.func174.trans (congrArg some (by kernel_rfl))
  f320 := Tryz.func175.trans (congrArg some (by kernel_rfl))
  f337 := Tryz.func176.trans (congrArg some (by kernel_rfl))
  f338 := Tryz.func177.trans (congrArg some (by kernel_rfl))
  t0 := Tryz.underlying0
  a0 := Tryz.isAgg0
  z0 := Tryz.sizeOf0
  v0 := Tryz.zeroValue0
  t2 := Tryz.underlying2
  a2 := Tryz.isAgg2
  z2 := Tryz.sizeOf2
  v2 := Tryz.zeroValue2
  t3 := Tryz.underlying3
  a3 := Tryz.isAgg3
  z3 := Tryz.sizeOf3
  v3 := Tryz.zeroValue3
  t4 := Tryz.underlying4
  a4 := Tryz.isAgg4
  z4 := Tryz.sizeOf4
  v4 := Tryz.zeroValue4
  t5 := Tryz.underlying5
  a5 := Tryz.isAgg5
  z5 := Tryz.sizeOf5
  v5 := Tryz.zeroValue5
  t9 := Tryz.underlying9
  a9 := Tryz.isAgg9
  z9 := Tryz.sizeOf9
  v9 := Tryz.zeroValue9
  t20 := Tryz.underlying20
  a20 := Tryz.isAgg20
  z20 := Tryz.sizeOf20
  v20 := Tryz.zeroValue20
  t37 := Tryz.underlying146
  a37 := Tryz.isAgg146
  z37 := Tryz.sizeOf146
  v37 := Tryz.zeroValue146
  t46 := Tryz.underlying136
  a46 := Tryz.isAgg136
  z46 := Tryz.sizeOf136
  v46 := Tryz.zeroValue136
  t51 := Tryz.underlying194
  a51 := Tryz.isAgg194
  z51 := Tryz.sizeOf194
  v51 := Tryz.zeroValue194
  t53 := Tryz.underlying189
  a53 := Tryz.isAgg189
  z53 := Tryz.sizeOf189
  v53 := Tryz.zeroValue189
  t171 := Tryz.underlying188
  a171 := Tryz.isAgg188
  z171 := Tryz.sizeOf188
  v171 := Tryz.zeroValue188
  t173 := Tryz.underlying192
  a173 := Tryz.isAgg192
  z173 := Tryz.sizeOf192
  v173 := Tryz.zeroValue192
  t212 := Tryz.underlying198
  a212 := Tryz.isAgg198
  z212 := Tryz.sizeOf198
  v212 := Tryz.zeroValue198
  t213 := Tryz.underlying199
  a213 := Tryz.isAgg199
  z213 := Tryz.sizeOf199
  t232 := Tryz.underlying207
  a232 := Tryz.isAgg207
  z232 := Tryz.sizeOf207
  v232 := Tryz.zeroValue207
  t233 := Tryz.underlying208
  a233 := Tryz.isAgg208
  z233 := Tryz.sizeOf208
  v233 := Tryz.zeroValue208
  g17 := by kernel_rfl
  g18 := by kernel_rfl
  g19 := by kernel_rfl
  i0 := by kernel_rfl
  i2 := by kernel_rfl
  i3 := by kernel_rfl
  i4 := by kernel_rfl
  i5 := by kernel_rfl
  i9 := by kernel_rfl
  i20 := by kernel_rfl
  i37 := by kernel_rfl
  i46 := by kernel_rfl
  i51 := by kernel_rfl
  i53 := by kernel_rfl
  i171 := by kernel_rfl
  i173 := by kernel_rfl
  i212 := by kernel_rfl
  i232 := by kernel_rfl
  i233 := by kernel_rfl
  m17 := by kernel_rfl
  m18 := by kernel_rfl
  m19 := by kernel_rfl }
open Go.RowKit Go.Sort Go.Lib in
theorem Tryz.strconv_FormatInt_10 (n : Int) (h0 : -9223372036854775808 ≤ n) (h1 : n ≤ 9223372036854775807) (w : World) (htab : Lib.TabIs Tryz.prog w "internal/strconv.uint64pow10" .u64 Lib.pow10Tab) :
    Calls Tryz.prog 149 #[.int .i64 n, .int .i64 10] w fun e w' => e = .returned (.string ⟨(Lib.itoa n).toArray⟩) ∧ ∃ k os, w' = grow (w.drewN k) os := Any.strconv_FormatInt_10 Tryz.laysM173 n h0 h1 w htab
def Tryz.laysM316_ren : Go.Shelf.Ren := ⟨fun | 316 => 133 | n => n, fun | 9 => 9 | 3 => 3 | 4 => 4 | 37 => 146 | 0 => 0 | 127 => 173 | 5 => 5 | n => n, fun | n => n⟩
theorem Tryz.laysM316 : Go.Proofs.LaysM.n316 Tryz.prog Tryz.laysM316_ren := {
  mixed := by kernel_rfl
  f316 := Tryz.func133.trans (congrArg some (by kernel_rfl))
  t0 := Tryz.underlying0
  a0 := Tryz.isAgg0
  z0 := Tryz.sizeOf0
  v0 := Tryz.zeroValue0
  t3 := Tryz.underlying3
  a3 := Tryz.isAgg3
  z3 := Tryz.sizeOf3
  v3 := Tryz.zeroValue3
  t4 := Tryz.underlying4
  a4 := Tryz.isAgg4
  z4 := Tryz.sizeOf4
  v4 := Tryz.zeroValue4
  t9 := Tryz.underlying9
  a9 := Tryz.isAgg9
  z9 := Tryz.sizeOf9
  v9 := Tryz.zeroValue9
  t37 := Tryz.underlying146
  a37 := Tryz.isAgg146
  z37 := Tryz.sizeOf146
  v37 := Tryz.zeroValue146
  t127 := Tryz.underlying173
  a127 := Tryz.isAgg173
  z127 := Tryz.sizeOf173
  v127 := Tryz.zeroValue173
  t5 := Tryz.underlying5
  a5 := Tryz.isAgg5
  z5 := Tryz.sizeOf5
  v5 := Tryz.zeroValue5
  i0 := by kernel_rfl
  i3 := by kernel_rfl
  i4 := by kernel_rfl
  i5 := by kernel_rfl
  i9 := by kernel_rfl
  i37 := by kernel_rfl
  i127 := by kernel_rfl }
open Go.RowKit in
theorem Tryz.stringslite_Clone (s : ByteArray) (w : World) (hlim : s.size ≤ 281474976710656) :
    Calls Tryz.prog 133 #[.string s] w fun e w' => e = .returned (.string s) ∧ Below w.heap.size w w' := Any.stringslite_Clone Tryz.laysM316 s w hlim
def Tryz.lays219_ren : Go.Shelf.Ren := ⟨fun | 219 => 151 | 217 => 157 | 225 => 158 | 224 => 159 | 267 => 160 | 266 => 168 | 314 => 169 | n => n, fun | 9 => 9 | 3 => 3 | 4 => 4 | 5 => 5 | 46 => 136 | 146 => 195 | 51 => 194 | n => n, fun | 1 => 0 | n => n⟩
theorem Tryz.lays219 : Go.Proofs.Lays.n219 Tryz.prog Tryz.lays219_ren := {
  mixed := by kernel_rfl
  f217 := Tryz.func157.trans (congrArg some (by kernel_rfl))
  f219 := Tryz.func151.trans (congrArg some (by kernel_rfl))
  f224 := Tryz.func159.trans (congrArg some (by kernel_rfl))
  f225 := Tryz.func158.trans (congrArg some (by kernel_rfl))
  f266 := Tryz.func168.trans (congrArg some (by kernel_rfl))
  f267 := Tryz.func160.trans (congrArg some (by kernel_rfl))
  f314 := Tryz.func169.trans (congrArg some (by kernel_rfl))
  t3 := Tryz.underlying3
  a3 := Tryz.isAgg3
  z3 := Tryz.sizeOf3
  v3 := Tryz.zeroValue3
  t4 := Tryz.underlying4
  a4 := Tryz.isAgg4
  z4 := Tryz.sizeOf4
  v4 := Tryz.zeroValue4
  t5 := Tryz.underlying5
  a5 := Tryz.isAgg5
  z5 := Tryz.sizeOf5
  v5 := Tryz.zeroValue5
  t9 := Tryz.underlying9
  a9 := Tryz.isAgg9
  z9 := Tryz.sizeOf9
  v9 := Tryz.zeroValue9
  t46 := Tryz.underlying136
  a46 := Tryz.isAgg136
  z46 := Tryz.sizeOf136
  v46 := Tryz.zeroValue136
  t51 := Tryz.underlying194
  a51 := Tryz.isAgg194
  z51 := Tryz.sizeOf194
  v51 := Tryz.zeroValue194
  t146 := Tryz.underlying195
  a146 := Tryz.isAgg195
  z146 := Tryz.sizeOf195
  v146 := Tryz.zeroValue195
  g1 := by kernel_rfl }
open Go.RowKit Go.Lib in
theorem Tryz.stringslite_Index_one (s : ByteArray) (c : UInt8) (w : World) :
    Calls Tryz.prog 151 #[.string s, .string ⟨#[c]⟩] w fun e w' => e = .returned (.int .i64 (Lib.indexByte s.data.toList c)) ∧ w' = w := Any.stringslite_Index_one Tryz.lays219 s c w
def Tryz.lays144_ren : Go.Shelf.Ren := ⟨fun | 144 => 147 | 143 => 154 | 219 => 151 | 217 => 157 | 225 => 158 | 224 => 159 | 267 => 160 | 266 => 168 | 314 => 169 | n => n, fun | 9 => 9 | 4 => 4 | 3 => 3 | 5 => 5 | 46 => 136 | 146 => 195 | 51 => 194 | n => n, fun | 1 => 0 | n => n⟩
theorem Tryz.lays144 : Go.Proofs.Lays.n144 Tryz.prog Tryz.lays144_ren := {
  mixed := by kernel_rfl
  f143 := Tryz.func154.trans (congrArg some (by kernel_rfl))
  f144 := Tryz.func147.trans (congrArg some (by kernel_rfl))
  f217 := Tryz.func157.trans (congrArg some (by kernel_rfl))
  f219 := Tryz.func151.trans (congrArg some (by kernel_rfl))
  f224 := Tryz.func159.trans (congrArg some (by kernel_rfl))
  f225 := Tryz.func158.trans (congrArg some (by kernel_rfl))
  f266 := Tryz.func168.trans (congrArg some (by kernel_rfl))
  f267 := Tryz.func160.trans (congrArg some (by kernel_rfl))
  f314 := Tryz.func169.trans (congrArg some (by kernel_rfl))
  t3 := Tryz.underlying3
  a3 := Tryz.isAgg3
  z3 := Tryz.sizeOf3
  v3 := Tryz.zeroValue3
  t4 := Tryz.underlying4
  a4 := Tryz.isAgg4
  z4 := Tryz.sizeOf4
  v4 := Tryz.zeroValue4
  t5 := Tryz.underlying5
  a5 := Tryz.isAgg5
  z5 := Tryz.sizeOf5
  v5 := Tryz.zeroValue5
  t9 := Tryz.underlying9
  a9 := Tryz.isAgg9
  z9 := Tryz.sizeOf9
  v9 := Tryz.zeroValue9
  t46 := Tryz.underlying136
  a46 := Tryz.isAgg136
  z46 := Tryz.sizeOf136
  v46 := Tryz.zeroValue136
  t51 := Tryz.underlying194
  a51 := Tryz.isAgg194
  z51 := Tryz.sizeOf194
  v51 := Tryz.zeroValue194
  t146 := Tryz.underlying195
  a146 := Tryz.isAgg195
  z146 := Tryz.sizeOf195
  v146 := Tryz.zeroValue195
  g1 := by kernel_rfl }
open Go.RowKit Go.Lib in
theorem Tryz.strings_Contains_one (s : ByteArray) (c : UInt8) (w : World) :
    Calls Tryz.prog 147 #[.string s, .string ⟨#[c]⟩] w fun e w' => e = .returned (.bool (decide (0 ≤ Lib.indexByte s.data.toList c))) ∧ w' = w := Any.strings_Contains_one Tryz.lays144 s c w
end Go.Proofs
/- What Go's library lays and answers: its table of powers of ten, numbers written, a byte looked for. -/
namespace Go.Proofs.YtkenbanaodbooaaGreatDoor
open Go.ChangeShapes Go.WideShapes Go.ChangeAt Go.RowKit

abbrev Tab (w : World) : Prop := Lib.TabIs Tryz.prog w "internal/strconv.uint64pow10" .u64 Lib.pow10Tab
theorem Tab.below {w w' : World} (h : Tab w) (b : Below w.heap.size w w') : Tab w' := Lib.tabBelow_of_tabIs h w' b
theorem below_grow (w : World) (k : Nat) (os : Array Obj) : Below w.heap.size w (Sort.grow (w.drewN k) os) :=
  ⟨rfl, rfl, rfl, by simp [Sort.grow], fun j hj => by
    show (w.heap ++ os)[j]? = w.heap[j]?
    rw [Array.getElem?_append_left hj]⟩

theorem digits_dec (n : Nat) : Lib.decDigits n = dec n := by
  induction n using Nat.strongRecOn with
  | ind n ih =>
    rw [Lib.decDigits, dec]
    by_cases h : n < 10
    · simp [h, digit, Nat.mod_eq_of_lt h]
    · simp only [h, dite_false, if_false]
      rw [ih (n / 10) (by omega)]
      rfl
theorem itoa_dec (n : Nat) : Lib.itoa (n : Int) = dec n := by
  unfold Lib.itoa
  rw [if_neg (by omega), digits_dec]
  rfl

/- where 151 is laid -/
theorem index_pos (c : UInt8) (l : Bs) : Lib.indexByte l c = if posB c l = l.length then -1 else (posB c l : Int) := by
  induction l with
  | nil => simp [Lib.indexByte, posB]
  | cons b l ih =>
    rw [Lib.indexByte, posB_cons, ih]
    by_cases h : b = c
    · simp [h]
    · have h1 : (b == c) = false := by simpa using h
      rw [h1, if_neg h]
      by_cases h2 : posB c l = l.length
      · simp [h2]
      · have h3 : ((posB c l : Int) == -1) = false := by simp
        simp [h2, h3]
theorem contains_is (c : UInt8) (l : Bs) : decide (0 ≤ Lib.indexByte l c) = !(l.all (fun b => b != c)) := by
  rw [index_pos]
  by_cases h : posB c l = l.length
  · rw [if_pos h, (posB_all c l).1 h]; rfl
  · have h2 : l.all (fun b => b != c) = false := by
      cases e : l.all (fun b => b != c) with
      | true => exact absurd ((posB_all c l).2 e) h
      | false => rfl
    rw [if_neg h, h2]
    simp

end Go.Proofs.YtkenbanaodbooaaGreatDoor
/- What Framed of the program answers: its numbers are written by Go's own library, whose table of powers of ten lies in a variable. -/
namespace Go.Proofs.YtkenbanaodbooaaGreatDoor
open Go.ChangeShapes Go.WideShapes Go.ChangeAt Go.RowKit

set_option maxRecDepth 20000 in
set_option maxHeartbeats 1000000 in
theorem iframed_any (l : Bs) (w : World) (hl : l.length ≤ 1048576) (ht : Tab w) :
    Calls Tryz.prog 141 #[S l] w fun e w' => e = .returned (S (framedS l)) ∧ Below w.heap.size w w' := by
  have hsz : (⟨l.toArray⟩ : ByteArray).size = l.length := rfl
  by_cases h300 : (300 : Int) < (l.length : Int)
  · have HF : Hid (framedS l = []) := by
      have : ¬ l.length ≤ 300 := by omega
      simp [Hid, framedS, plainB, this]
    unfold S
    go_enter Tryz.func141, Tryz.ntmps141
    go_wp2_with fail
    go_ret
    rw [HF.out]
    exact ⟨rfl, Below.refl _ _⟩
  · have c0 : Calls Tryz.prog 147 #[.string ⟨l.toArray⟩, .string ⟨#[10]⟩] w fun e w' => e = .returned (.bool (!(l.all (fun b => b != 10)))) ∧ w' = w := by
      have := Tryz.strings_Contains_one ⟨l.toArray⟩ 10 w
      rwa [show (⟨l.toArray⟩ : ByteArray).data.toList = l from rfl, contains_is] at this
    by_cases hp : l.all (fun b => b != 10) = true
    · rw [hp] at c0
      have HF : Hid (framedS l = dec l.length ++ [32] ++ dec (chk l).toNat ++ [32] ++ l ++ [10]) := by
        have : l.length ≤ 300 := by omega
        simp [Hid, framedS, plainB, hp, this, framed]
      have hb := chk_bd l
      have c1 := fun wx (h : Tab wx) => Tryz.strconv_Itoa (l.length : Nat) (by omega) (by omega) wx h
      have c2 := fun wx => icheck_any l wx hl
      have c3 := fun wx (h : Tab wx) => Tryz.strconv_FormatInt_10 (chk l) (by omega) (by omega) wx h
      have e3 : Lib.itoa (chk l) = dec (chk l).toNat := by have h := itoa_dec (chk l).toNat; rwa [chk_cast] at h
      simp only [itoa_dec] at c1
      simp only [e3] at c3
      have d1 := dec_len 13 l.length (by omega)
      have d2 := dec_len 5 (chk l).toNat (by omega)
      obtain ⟨x, hx⟩ : ∃ x, x = chk l := ⟨_, rfl⟩
      obtain ⟨p, hpp⟩ : ∃ p, p = dec l.length := ⟨_, rfl⟩
      obtain ⟨q, hq⟩ : ∃ q, q = dec (chk l).toNat := ⟨_, rfl⟩
      simp only [← hpp] at c1 d1 HF
      simp only [← hq] at c3 d2 HF
      simp only [← hx] at c2 c3
      have HT : Hid (Tab w) := ht
      clear hpp hq hx e3 hb hp ht
      unfold S at c2 ⊢
      go_enter Tryz.func141, Tryz.ntmps141
      go_wp2_with fail
      refine c0.mono ?_
      rintro e w' ⟨rfl, hw⟩; subst w'
      clear c0
      go_wp2_with fail
      refine (c1 w HT.out).mono ?_
      rintro e w1 ⟨rfl, k1, o1, hw1⟩
      have HB : Hid (Below w.heap.size w w1) := by rw [hw1]; exact below_grow w k1 o1
      clear hw1 c1
      go_wp2_with fail
      refine (c2 w1).mono ?_
      rintro e w' ⟨rfl, hw⟩; subst w'
      clear c2
      go_wp2_with fail
      refine (c3 w1 (HT.out.below HB.out)).mono ?_
      rintro e w2 ⟨rfl, k2, o2, hw2⟩
      have HC : Hid (Below w.heap.size w w2) := HB.out.trans (by rw [hw2]; exact (below_grow w1 k2 o2).mono HB.out.size)
      clear hw2 c3 HB
      go_wp2_with fail
      go_ret
      refine ⟨congrArg (fun x => Ending.returned (Value.string x)) ?_, HC.out⟩
      rw [HF.out, app, app, app, app, app]
    · have hp' : l.all (fun b => b != 10) = false := by simpa using hp
      rw [hp'] at c0
      have HF : Hid (framedS l = []) := by simp [Hid, framedS, plainB, hp']
      clear hp hp' ht
      unfold S
      go_enter Tryz.func141, Tryz.ntmps141
      go_wp2_with fail
      refine c0.mono ?_
      rintro e w' ⟨rfl, hw⟩; subst w'
      clear c0
      go_wp2_with fail
      go_ret
      rw [HF.out]
      exact ⟨rfl, Below.refl _ _⟩
end Go.Proofs.YtkenbanaodbooaaGreatDoor
/- What firstFrame of the program answers: what strings.Cut leaves, framed once more. -/
namespace Go.Proofs.YtkenbanaodbooaaGreatDoor
open Go.ChangeShapes Go.WideShapes Go.ChangeAt Go.RowKit

def hasC (c : UInt8) (l : Bs) : Bool := decide (posB c l < l.length)
theorem behind_miss {c : UInt8} {l : Bs} (h : posB c l = l.length) : behind c l = [] ∧ before c l = l ∧ hasC c l = false := by
  simp [behind, before, hasC, h]
theorem posB_app (c : UInt8) (a r : Bs) (h : ∀ b ∈ a, b ≠ c) : posB c (a ++ c :: r) = a.length := by
  induction a with
  | nil => simp [posB]
  | cons b a ih =>
    rw [List.cons_append, posB_cons, if_neg (h b (by simp)), ih (fun x hx => h x (by simp [hx]))]
    rfl
theorem behind_app (c : UInt8) (a r : Bs) (h : ∀ b ∈ a, b ≠ c) : behind c (a ++ c :: r) = r := by
  unfold behind
  rw [posB_app c a r h, ← List.drop_drop, List.drop_left]
  rfl

set_option maxRecDepth 20000 in
set_option maxHeartbeats 1000000 in
theorem lcut_any (c : UInt8) (l : Bs) (w : World) (hl : l.length ≤ 1048576) :
    Calls Tryz.prog 142 #[S l, .string ⟨#[c]⟩] w fun e w' => e = .returned (.tuple #[S (before c l), S (behind c l), .bool (hasC c l)]) ∧ ∃ n, w' = w.drewN n := by
  have hsz : (⟨l.toArray⟩ : ByteArray).size = l.length := rfl
  have hs1 : (⟨#[c]⟩ : ByteArray).size = 1 := rfl
  have hle := posB_le c l
  have c0 := Tryz.stringslite_Index_one ⟨l.toArray⟩ c w
  rw [show (⟨l.toArray⟩ : ByteArray).data.toList = l from rfl, index_pos] at c0
  by_cases h : posB c l = l.length
  · obtain ⟨h1, h2, h3⟩ := behind_miss h
    rw [if_pos h] at c0
    rw [h1, h2, h3]
    unfold S
    clear h1 h2 h3
    go_enter Tryz.func142, Tryz.ntmps142
    go_wp2_with fail
    refine c0.mono ?_
    rintro e w' ⟨rfl, hw⟩; subst w'
    clear c0
    go_wp2_with fail
    go_ret3
    exact ⟨rfl, 0, rfl⟩
  · rw [if_neg h] at c0
    have h3 : hasC c l = true := by simp [hasC]; omega
    have hex1 := extract_cut l 0 (posB c l)
    have hex2 := extract_cut l (posB c l + 1) l.length
    have e1 : cutB l 0 (posB c l) = before c l := by simp [cutB, before]
    have e2 : cutB l (posB c l + 1) l.length = behind c l := by simp [cutB, behind]
    rw [e1] at hex1
    rw [e2] at hex2
    rw [h3]
    obtain ⟨p, hp⟩ : ∃ p, p = posB c l := ⟨_, rfl⟩
    obtain ⟨x, hx⟩ : ∃ x, x = before c l := ⟨_, rfl⟩
    obtain ⟨y, hy⟩ : ∃ y, y = behind c l := ⟨_, rfl⟩
    rw [← hx] at hex1 ⊢
    rw [← hy] at hex2 ⊢
    rw [← hp] at c0 hex1 hex2 h hle
    have hlt : (p : Int) + 1 ≤ (l.length : Int) := by omega
    clear hp hx hy e1 e2 h3
    unfold S
    go_enter Tryz.func142, Tryz.ntmps142
    go_wp2_with fail
    refine c0.mono ?_
    rintro e w' ⟨rfl, hw⟩; subst w'
    clear c0
    go_wp2_with fail
    go_quiet (fail)
    go_wp2_with fail
    go_ret3
    exact ⟨rfl, nq, rfl⟩

set_option maxRecDepth 20000 in
set_option maxHeartbeats 1000000 in
theorem icut_any (c : UInt8) (l : Bs) (w : World) (hl : l.length ≤ 1048576) :
    Calls Tryz.prog 129 #[S l, .string ⟨#[c]⟩] w fun e w' => e = .returned (.tuple #[S (before c l), S (behind c l), .bool (hasC c l)]) ∧ ∃ n, w' = w.drewN n := by
  have c0 := lcut_any c l w hl
  go_enter Tryz.func129, Tryz.ntmps129
  go_wp2_with fail
  refine c0.mono ?_
  rintro e w1 ⟨rfl, hw⟩
  clear c0
  go_wp2_with fail
  go_ret3
  exact ⟨rfl, hw⟩

/- The text of the frame that a text begins with, if it begins with one. -/
def textB (s : Bs) : Bs := behind 32 (behind 32 (before 10 s))
theorem lineN_pos (s : Bs) : lineN s = posB 10 s := rfl
theorem before_len {c : UInt8} {l : Bs} : (before c l).length = posB c l := by
  have := posB_le c l
  simp [before]; omega
theorem behind_len (c : UInt8) (l : Bs) : (behind c l).length ≤ l.length := by simp [behind]
theorem textB_framed {t : Bs} (h : plainB t = true) (r : Bs) : textB (framed t ++ r) = t := by
  have h1 : before 10 (framed t ++ r) = body t := by
    have hb : ∀ b ∈ body t, b ≠ 10 := by
      intro b hb
      have := body_ne h
      rw [List.all_eq_true] at this
      simpa using this b hb
    unfold before
    rw [framed_body, List.append_assoc, List.singleton_append, posB_app 10 _ _ hb, List.take_left]
  unfold textB
  rw [h1]
  unfold body
  rw [behind_app 32 _ _ (fun b hb => (dec_ne _ b hb).2), behind_app 32 _ _ (fun b hb => (dec_ne _ b hb).2)]
theorem firstB_end {s : Bs} (h : posB 10 s = s.length) : firstB s = ([], 0) := by
  have : lineN s = s.length := h
  simp [firstB, this]
theorem firstB_hit {s : Bs} (h : posB 10 s < s.length) (e : framedS (textB s) = s.take (posB 10 s + 1)) : firstB s = (textB s, posB 10 s + 1) := by
  have hp : plainB (textB s) = true := by
    by_cases hp : plainB (textB s) = true
    · exact hp
    · have hn : framedS (textB s) = [] := by simp [framedS, hp]
      rw [hn] at e
      have := congrArg List.length e
      simp at this
      omega
  rw [framedS_yes hp] at e
  have hs : s = framed (textB s) ++ s.drop (posB 10 s + 1) := by rw [e, List.take_append_drop]
  have hl := congrArg List.length e
  rw [List.length_take, Nat.min_eq_left (by omega)] at hl
  have := firstB_yes hp (s.drop (posB 10 s + 1))
  rw [← hs, hl] at this
  exact this
theorem firstB_not {s : Bs} (e : framedS (textB s) ≠ s.take (posB 10 s + 1)) : firstB s = ([], 0) := by
  by_cases h0 : (firstB s).2 = 0
  · exact firstB_zero s h0
  · obtain ⟨hp, hf, hn⟩ := firstB_sound s h0
    exfalso
    have hs : s = framed (firstB s).1 ++ s.drop (firstB s).2 := by rw [hf, List.take_append_drop]
    have ht : textB s = (firstB s).1 := by
      have := textB_framed hp (s.drop (firstB s).2)
      rwa [← hs] at this
    apply e
    rw [ht, framedS_yes hp, hf]
    congr 1
    have hb : ∀ b ∈ body (firstB s).1, b ≠ 10 := by
      intro b hb
      have := body_ne hp
      rw [List.all_eq_true] at this
      simpa using this b hb
    have : posB 10 s = (body (firstB s).1).length := by
      have := posB_app 10 _ (s.drop (firstB s).2) hb
      rw [← this]
      congr 1
      rw [hs]
      conv => rhs; rw [← hs]
      rw [framed_body]
      simp
    rw [this, hn, framed_len]

set_option maxRecDepth 20000 in
set_option maxHeartbeats 2000000 in
theorem ifirst_any (s : Bs) (w : World) (hl : s.length ≤ 1048576) (ht : Tab w) :
    Calls Tryz.prog 128 #[S s] w fun e w' => e = .returned (.tuple #[S (firstB s).1, .int .i64 (firstB s).2]) ∧ Below w.heap.size w w' := by
  have hsz : (⟨s.toArray⟩ : ByteArray).size = s.length := rfl
  have hle := posB_le 10 s
  have hbl : (before 10 s).length = posB 10 s := before_len
  have c1 := fun wx => icut_any 10 s wx hl
  have c2 := fun wx => icut_any 32 (before 10 s) wx (by omega)
  have hb2 := behind_len 32 (before 10 s)
  have c3 := fun wx => icut_any 32 (behind 32 (before 10 s)) wx (by omega)
  have hb3 := behind_len 32 (behind 32 (before 10 s))
  have HT : Hid (Tab w) := ht
  clear ht
  by_cases h : posB 10 s = s.length
  · have HE : Hid (firstB s = ([], 0)) := firstB_end h
    have hh : hasC 10 s = false := (behind_miss h).2.2
    simp only [hh] at c1
    unfold S at c1 ⊢
    clear hh c2 c3
    go_enter Tryz.func128, Tryz.ntmps128
    go_wp2_with fail
    refine (c1 w).mono ?_
    rintro e w1 ⟨rfl, n1, hw1⟩
    have HB : Hid (Below w.heap.size w w1) := by rw [hw1]; exact below_drewN (Below.refl _ _) _
    clear c1 hw1
    go_wp2_with fail
    go_ret2
    rw [HE.out]
    exact ⟨rfl, HB.out⟩
  · have hh : hasC 10 s = true := by simp [hasC]; omega
    simp only [hh] at c1
    have c4 := fun wx (hx : Tab wx) => iframed_any (textB s) wx (by unfold textB; omega) hx
    have e4 : behind 32 (behind 32 (before 10 s)) = textB s := rfl
    simp only [e4] at c3
    have hex := extract_cut s 0 (posB 10 s + 1)
    have e5 : cutB s 0 (posB 10 s + 1) = s.take (posB 10 s + 1) := by simp [cutB]
    rw [e5] at hex
    have H1 : Hid (framedS (textB s) = s.take (posB 10 s + 1) → firstB s = (textB s, posB 10 s + 1)) := fun e => firstB_hit (by omega) e
    have H2 : Hid (framedS (textB s) ≠ s.take (posB 10 s + 1) → firstB s = ([], 0)) := fun e => firstB_not e
    obtain ⟨p, hp⟩ : ∃ p, p = posB 10 s := ⟨_, rfl⟩
    obtain ⟨t, hte⟩ : ∃ t, t = textB s := ⟨_, rfl⟩
    obtain ⟨f, hf⟩ : ∃ f, f = framedS t := ⟨_, rfl⟩
    obtain ⟨z, hz⟩ : ∃ z, z = s.take (posB 10 s + 1) := ⟨_, rfl⟩
    obtain ⟨ln, hln⟩ : ∃ ln, ln = before 10 s := ⟨_, rfl⟩
    rw [← hz] at hex H1 H2
    simp only [← hln] at c1 c2 hbl c3
    simp only [← hte] at c3 c4 H1 H2
    simp only [← hf] at c4 H1 H2
    rw [← hp] at hex H1 hbl hle h
    have hzl : (⟨ln.toArray⟩ : ByteArray).size = p := hbl
    have hlt : (p : Int) + 1 ≤ (s.length : Int) := by omega
    have hj0 : (0 : Int) ≤ (p : Int) + 1 := by omega
    have hwr : IntKind.i64.wrap ((p : Int) + 1) = (p : Int) + 1 := by rw [IntKind.wrap_i64]; omega
    unfold S at c1 c2 c3 c4 ⊢
    clear hh e4 e5 hp hte hf hz hln hb2 hb3 hbl
    go_enter Tryz.func128, Tryz.ntmps128
    go_wp2_with fail
    refine (c1 w).mono ?_
    rintro e w1 ⟨rfl, n1, hw1⟩
    have HB : Hid (Below w.heap.size w w1) := by rw [hw1]; exact below_drewN (Below.refl _ _) _
    clear c1 hw1
    go_wp2_with fail
    refine (c2 w1).mono ?_
    rintro e w2 ⟨rfl, n2, hw2⟩
    replace HB : Hid (Below w.heap.size w w2) := by rw [hw2]; exact below_drewN HB.out _
    clear c2 hw2
    go_wp2_with fail
    refine (c3 w2).mono ?_
    rintro e w3 ⟨rfl, n3, hw3⟩
    replace HB : Hid (Below w.heap.size w w3) := by rw [hw3]; exact below_drewN HB.out _
    clear c3 hw3
    have c5 := c4 (w3.drew) (HT.out.below (below_drewN HB.out 1))
    have HB1 : Hid (Below w.heap.size w w3.drew) := below_drewN HB.out 1
    clear c4
    by_cases hf : f = z
    · have HE := H1.out hf
      subst hf
      clear H1 H2
      go_wp2_with fail
      go_region_held3 (fun w' => True) (trivial)
        ((go_at_call 141; refine c5.mono ?_; rintro e w4 ⟨rfl, b4⟩))
      have HB3 : Hid (Below w.heap.size w w4) := HB1.out.trans (b4.mono HB1.out.size)
      go_wp2_with fail
      go_ret2
      rw [HE]
      exact ⟨rfl, HB3.out⟩
    · have HE := H2.out hf
      have hbeq : (f == z) = false := by simpa using hf
      clear H1 H2
      go_wp2_with fail
      go_region_held3 (fun w' => True) (trivial)
        ((go_at_call 141; refine c5.mono ?_; rintro e w4 ⟨rfl, b4⟩))
      have HB3 : Hid (Below w.heap.size w w4) := HB1.out.trans (b4.mono HB1.out.size)
      go_wp2_with fail
      go_ret2
      rw [HE]
      exact ⟨rfl, HB3.out⟩
end Go.Proofs.YtkenbanaodbooaaGreatDoor
