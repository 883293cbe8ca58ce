/- The contracts of library functions that the walks use, laid at this translation: each is one application of a theorem of the library; the conditions stand in each theorem. -/
import Derived.Shelf.Strings.Builder1
import Derived.Shelf.Strings.Builder2
import Derived.Shelf.Strings.OnBuilder
import Derived.Shelf.Small.Wraps
import Derived.Shelf.Strconv.Itoa0
import Derived.Shelf.Strconv.Itoa1
import Derived.Shelf.LaysM
import Derived.Shelf.Strconv.Itoa2
import Derived.Shelf.Strconv.Itoa3
import Derived.Shelf.Strconv.Itoa4
import Derived.Ground.Names2Prog
import Derived.Shelf.Slices.Clone
import Derived.Shelf.Slices.In.SortNone
import Derived.Ground.SlgnProg
import Derived.Shelf.SlicesE.Clone
import Derived.Test.YtedbhlihdfaaaaaDoorProg
namespace Go.Proofs
open Go.Shelf
def Tryd.lays156_ren : Go.Shelf.Ren := ⟨fun | 156 => 266 | 165 => 286 | 166 => 287 | 169 => 288 | 240 => 304 | 241 => 305 | 276 => 348 | 277 => 349 | n => n, fun | 31 => 22 | 9 => 9 | 3 => 3 | 4 => 4 | 0 => 0 | 20 => 20 | 72 => 336 | 76 => 340 | 70 => 334 | 37 => 35 | 75 => 339 | 127 => 356 | 164 => 387 | 5 => 5 | 80 => 192 | n => n, fun | n => n⟩
theorem Tryd.lays156 : Go.Proofs.Lays.n156 Tryd.prog Tryd.lays156_ren := {
  mixed := by kernel_rfl
  f156 := Tryd.func266.trans (congrArg some (by kernel_rfl))
  f165 := Tryd.func286.trans (congrArg some (by kernel_rfl))
  f166 := Tryd.func287.trans (congrArg some (by kernel_rfl))
  f169 := Tryd.func288.trans (congrArg some (by kernel_rfl))
  f240 := Tryd.func304.trans (congrArg some (by kernel_rfl))
  f241 := Tryd.func305.trans (congrArg some (by kernel_rfl))
  f276 := Tryd.func348.trans (congrArg some (by kernel_rfl))
  f277 := Tryd.func349.trans (congrArg some (by kernel_rfl))
  t0 := Tryd.underlying0
  a0 := Tryd.isAgg0
  z0 := Tryd.sizeOf0
  v0 := Tryd.zeroValue0
  t3 := Tryd.underlying3
  a3 := Tryd.isAgg3
  z3 := Tryd.sizeOf3
  v3 := Tryd.zeroValue3
  t4 := Tryd.underlying4
  a4 := Tryd.isAgg4
  z4 := Tryd.sizeOf4
  v4 := Tryd.zeroValue4
  t9 := Tryd.underlying9
  a9 := Tryd.isAgg9
  z9 := Tryd.sizeOf9
  v9 := Tryd.zeroValue9
  t20 := Tryd.underlying20
  a20 := Tryd.isAgg20
  z20 := Tryd.sizeOf20
  v20 := Tryd.zeroValue20
  t31 := Tryd.underlying22
  a31 := Tryd.isAgg22
  z31 := Tryd.sizeOf22
  v31 := Tryd.zeroValue22
  t37 := Tryd.underlying35
  a37 := Tryd.isAgg35
  z37 := Tryd.sizeOf35
  v37 := Tryd.zeroValue35
  t70 := Tryd.underlying334
  a70 := Tryd.isAgg334
  z70 := Tryd.sizeOf334
  v70 := Tryd.zeroValue334
  t72 := Tryd.underlying336
  a72 := Tryd.isAgg336
  z72 := Tryd.sizeOf336
  v72 := Tryd.zeroValue336
  t75 := Tryd.underlying339
  a75 := Tryd.isAgg339
  z75 := Tryd.sizeOf339
  v75 := Tryd.zeroValue339
  t76 := Tryd.underlying340
  a76 := Tryd.isAgg340
  z76 := Tryd.sizeOf340
  v76 := Tryd.zeroValue340
  t127 := Tryd.underlying356
  a127 := Tryd.isAgg356
  z127 := Tryd.sizeOf356
  v127 := Tryd.zeroValue356
  t164 := Tryd.underlying387
  a164 := Tryd.isAgg387
  z164 := Tryd.sizeOf387
  v164 := Tryd.zeroValue387 }
theorem Tryd.Builder_Extra_156 : Builder.Extra Tryd.prog Tryd.lays156_ren := {
  sizeBuilder := by kernel_rfl
  liesBuilder := by kernel_rfl
  t5 := Tryd.underlying5
  a5 := Tryd.isAgg5
  z5 := Tryd.sizeOf5
  v5 := Tryd.zeroValue5
  infoByte := by kernel_rfl
  cellsByte := by kernel_rfl
  sizeByte := by kernel_rfl
  neB5 := by decide }
open Go.RowKit in
theorem Tryd.strings_Join_none (a : Option Addr) (c : Nat) (sep : ByteArray) (w : World) :
    Calls Tryd.prog 266 #[.slice a 0 c, .string sep] w fun e w' => e = .returned (.string ⟨#[]⟩) ∧ w' = w := Any.strings_Join_none Tryd.lays156 Tryd.Builder_Extra_156 a c sep w
open Go.RowKit in
theorem Tryd.strings_Join (bk o c : Nat) (xs : List ByteArray) (sep : ByteArray) (w : World) (hcells : ∀ (j : Nat) x, xs[j]? = some x → w.cell? ⟨bk, o + j, none⟩ = some (.string x)) (hbk : bk < w.heap.size) (hN : xs.length ≤ 140737488355328) (hcap : xs.length ≤ c) (hlen : (Lib.join (xs.map (·.data.toList)) sep.data.toList).length ≤ 140737488355328) :
    Calls Tryd.prog 266 #[.slice (some ⟨bk, o, none⟩) xs.length c, .string sep] w fun e w' => e = .returned (.string ⟨(Lib.join (xs.map (·.data.toList)) sep.data.toList).toArray⟩) ∧ Below w.heap.size w w' := Any.strings_Join Tryd.lays156 Tryd.Builder_Extra_156 bk o c xs sep w hcells hbk hN hcap hlen
def Tryd.laysM173_ren : Go.Shelf.Ren := ⟨fun | 173 => 246 | 246 => 278 | 283 => 297 | 284 => 298 | 285 => 299 | 286 => 300 | 129 => 315 | 317 => 328 | 318 => 329 | 319 => 330 | 320 => 331 | 337 => 360 | 338 => 361 | n => n, fun | 2 => 2 | 3 => 3 | 9 => 9 | 4 => 4 | 171 => 349 | 0 => 0 | 53 => 281 | 37 => 35 | 5 => 5 | 173 => 351 | 212 => 375 | 51 => 366 | 20 => 20 | 213 => 376 | 46 => 279 | 232 => 405 | 233 => 406 | n => n, fun | 17 => 1 | 18 => 3 | 19 => 4 | n => n⟩
theorem Tryd.laysM173 : Go.Proofs.LaysM.n173 Tryd.prog Tryd.laysM173_ren := {
  mixed := by kernel_rfl
  f129 := Tryd.func315.trans (congrArg some (by kernel_rfl))
  f173 := Tryd.func246.trans (congrArg some (by kernel_rfl))
  f246 := Tryd.func278.trans (congrArg some (by kernel_rfl))
  f283 := Tryd.func297.trans (congrArg some (by kernel_rfl))
  f284 := Tryd.func298.trans (congrArg some (by kernel_rfl))
  f285 := Tryd.func299.trans (congrArg some (by kernel_rfl))
  f286 := Tryd.func300.trans (congrArg some (by kernel_rfl))
  f317 := Tryd.func328.trans (congrArg some (by kernel_rfl))
  f318 := Tryd.func329.trans (congrArg some (by kernel_rfl))
  f319 := Tryd.func330.trans (congrArg some (by kernel_rfl))
  f320 := Tryd.func331.trans (congrArg some (by kernel_rfl))
  f337 := Tryd.func360.trans (congrArg some (by kernel_rfl))
  f338 := Tryd.func361.trans (congrArg some (by kernel_rfl))
  t0 := Tryd.underlying0
  a0 := Tryd.isAgg0
  z0 := Tryd.sizeOf0
  v0 := Tryd.zeroValue0
  t2 := Tryd.underlying2
  a2 := Tryd.isAgg2
  z2 := Tryd.sizeOf2
  v2 := Tryd.zeroValue2
  t3 := Tryd.underlying3
  a3 := Tryd.isAgg3
  z3 := Tryd.sizeOf3
  v3 := Tryd.zeroValue3
  t4 := Tryd.underlying4
  a4 := Tryd.isAgg4
  z4 := Tryd.sizeOf4
  v4 := Tryd.zeroValue4
  t5 := Tryd.underlying5
  a5 := Tryd.isAgg5
  z5 := Tryd.sizeOf5
  v5 := Tryd.zeroValue5
  t9 := Tryd.underlying9
  a9 := Tryd.isAgg9
  z9 := Tryd.sizeOf9
  v9 := Tryd.zeroValue9
  t20 := Tryd.underlying20
  a20 := Tryd.isAgg20
  z20 := Tryd.sizeOf20
  v20 := Tryd.zeroValue20
  t37 := Tryd.underlying35
  a37 := Tryd.isAgg35
  z37 := Tryd.sizeOf35
  v37 := Tryd.zeroValue35
  t46 := Tryd.underlying279
  a46 := Tryd.isAgg279
  z46 := Tryd.sizeOf279
  v46 := Tryd.zeroValue279
  t51 := Tryd.underlying366
  a51 := Tryd.isAgg366
  z51 := Tryd.sizeOf366
  v51 := Tryd.zeroValue366
  t53 := Tryd.underlying281
  a53 := Tryd.isAgg281
  z53 := Tryd.sizeOf281
  v53 := Tryd.zeroValue281
  t171 := Tryd.underlying349
  a171 := Tryd.isAgg349
  z171 := Tryd.sizeOf349
  v171 := Tryd.zeroValue349
  t173 := Tryd.underlying351
  a173 := Tryd.isAgg351
  z173 := Tryd.sizeOf351
  v173 := Tryd.zeroValue351
  t212 := Tryd.underlying375
  a212 := Tryd.isAgg375
  z212 := Tryd.sizeOf375
  v212 := Tryd.zeroValue375
  t213 := Tryd.underlying376
  a213 := Tryd.isAgg376
  z213 := Tryd.sizeOf376
  t232 := Tryd.underlying405
  a232 := Tryd.isAgg405
  z232 := Tryd.sizeOf405
  v232 := Tryd.zeroValue405
  t233 := Tryd.underlying406
  a233 := Tryd.isAgg406
  z233 := Tryd.sizeOf406
  v233 := Tryd.zeroValue406
  g17 := by kernel_rfl
  g18 := by kernel_rfl
  g19 := by kernel_rfl
  i0 := by kernel_rfl
  i2 := by kernel_rfl
  i3 := by kernel_rfl
  i4 := by kernel_rfl
  i5 := by kernel_rfl
  i9 := by kernel_rfl
  i20 := by kernel_rfl
  i37 := by kernel_rfl
  i46 := by kernel_rfl
  i51 := by kernel_rfl
  i53 := by kernel_rfl
  i171 := by kernel_rfl
  i173 := by kernel_rfl
  i212 := by kernel_rfl
  i232 := by kernel_rfl
  i233 := by kernel_rfl
  m17 := by kernel_rfl
  m18 := by kernel_rfl
  m19 := by kernel_rfl }
open Go.RowKit Go.Sort Go.Lib in
theorem Tryd.strconv_FormatInt_10 (n : Int) (h0 : -9223372036854775808 ≤ n) (h1 : n ≤ 9223372036854775807) (w : World) (htab : Lib.TabIs Tryd.prog w "internal/strconv.uint64pow10" .u64 Lib.pow10Tab) :
    Calls Tryd.prog 246 #[.int .i64 n, .int .i64 10] w fun e w' => e = .returned (.string ⟨(Lib.itoa n).toArray⟩) ∧ ∃ k os, w' = grow (w.drewN k) os := Any.strconv_FormatInt_10 Tryd.laysM173 n h0 h1 w htab
def Tryd.laysNm216_ren : Go.Shelf.Ren := ⟨fun | 16 => 195 | n => n, fun | 24 => 22 | 9 => 9 | 4 => 4 | n => n, fun | n => n⟩
theorem Tryd.laysNm216 : Go.Proofs.Lays2.n16 Tryd.prog Tryd.laysNm216_ren := {
  mixed := by kernel_rfl
  f16 := Tryd.func195.trans (congrArg some (by kernel_rfl))
  t4 := Tryd.underlying4
  a4 := Tryd.isAgg4
  z4 := Tryd.sizeOf4
  v4 := Tryd.zeroValue4
  t9 := Tryd.underlying9
  a9 := Tryd.isAgg9
  z9 := Tryd.sizeOf9
  v9 := Tryd.zeroValue9
  t24 := Tryd.underlying22
  a24 := Tryd.isAgg22
  z24 := Tryd.sizeOf22
  v24 := Tryd.zeroValue22
  i9 := by kernel_rfl }
open Go.RowKit Go.Lib in
theorem Tryd.slices_Clone_string (b off n c : Nat) (zs : List ByteArray) (w : World) (hz : n ≤ zs.length) (hbig : n * 16 ≤ 140737488355328) (hc : ∀ j, j < zs.length → w.cell? ⟨b, off + j, none⟩ = some (.string (zs.getD j ByteArray.empty))) :
    Calls Tryd.prog 195 #[.slice (some ⟨b, off, none⟩) n c] w fun e w' => ∃ v', e = .returned v' ∧ w'.ownsRow w.heap.size 9 1 v' n ((zs.take n).map (Value.string)) ∧ v' ≠ .slice none 0 0 ∧ Below w.heap.size w w' := Any.slices_Clone_string Tryd.laysNm216 b off n c zs w hz hbig hc
end Go.Proofs
