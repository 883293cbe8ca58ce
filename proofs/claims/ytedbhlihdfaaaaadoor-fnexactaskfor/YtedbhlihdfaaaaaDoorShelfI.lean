/- The contracts of library functions that the walks use, laid at this translation: each is one application of a theorem of the library; the conditions stand in each theorem. -/
import Derived.Shelf.SlIter.Nil
import Derived.Shelf.SortM.Plain
import Derived.Shelf.SortM.SortNone
import Derived.Ground.GgzProg
import Derived.Ground.SlgmProg
import Derived.Test.YtedbhlihdfaaaaaDoorProg
namespace Go.Proofs
open Go.Shelf
def Tryd.keys242_ren : Go.Shelf.Ren := ⟨fun | 7 => 242 | 10 => 276 | n => n, fun | 23 => 130 | 26 => 9 | 3 => 290 | 28 => 294 | 0 => 0 | 27 => 293 | 33 => 206 | 4 => 4 | n => n, fun | n => n⟩
theorem Tryd.keys242 : Go.Proofs.SlLaysZ.n7 Tryd.prog Tryd.keys242_ren := {
  mixed := by kernel_rfl
  f7 := ⟨Tryd.f242.name, by decide, Tryd.func242.trans (congrArg some (by kernel_rfl))⟩
  f10 := ⟨Tryd.f276.name, by decide, Tryd.func276.trans (congrArg some (by kernel_rfl))⟩
  t0 := Tryd.underlying0
  a0 := Tryd.isAgg0
  z0 := Tryd.sizeOf0
  v0 := Tryd.zeroValue0
  t4 := Tryd.underlying4
  a4 := Tryd.isAgg4
  z4 := Tryd.sizeOf4
  v4 := Tryd.zeroValue4
  t23 := Tryd.underlying130
  a23 := Tryd.isAgg130
  z23 := Tryd.sizeOf130
  v23 := Tryd.zeroValue130
  t26 := Tryd.underlying9
  a26 := Tryd.isAgg9
  z26 := Tryd.sizeOf9
  v26 := Tryd.zeroValue9
  t27 := Tryd.underlying293
  a27 := Tryd.isAgg293
  z27 := Tryd.sizeOf293
  v27 := Tryd.zeroValue293
  t28 := Tryd.underlying294
  a28 := Tryd.isAgg294
  z28 := Tryd.sizeOf294
  v28 := Tryd.zeroValue294
  t33 := Tryd.underlying206
  a33 := Tryd.isAgg206
  z33 := Tryd.sizeOf206
  v33 := Tryd.zeroValue206 }
def Tryd.sorted241_ren : Go.Shelf.Ren := ⟨fun | 6 => 241 | 8 => 274 | 9 => 275 | 11 => 295 | 13 => 291 | 12 => 296 | 23 => 314 | 24 => 315 | 14 => 319 | 15 => 320 | 16 => 321 | 17 => 322 | 18 => 323 | 19 => 324 | 20 => 325 | 21 => 326 | 22 => 327 | 25 => 356 | 26 => 351 | 27 => 352 | 28 => 357 | 29 => 358 | 30 => 359 | 31 => 369 | n => n, fun | 26 => 9 | 28 => 294 | 24 => 22 | 0 => 0 | 3 => 3 | 37 => 279 | 48 => 366 | 50 => 281 | 4 => 4 | 40 => 359 | 39 => 358 | 45 => 363 | 5 => 5 | 9 => 9 | 51 => 390 | 55 => 393 | 57 => 401 | 58 => 402 | 33 => 206 | n => n, fun | n => n⟩
theorem Tryd.sorted241 : Go.Proofs.SlLaysZ.n6 Tryd.prog Tryd.sorted241_ren := {
  mixed := by kernel_rfl
  f6 := ⟨Tryd.f241.name, by decide, Tryd.func241.trans (congrArg some (by kernel_rfl))⟩
  f8 := ⟨Tryd.f274.name, by decide, Tryd.func274.trans (congrArg some (by kernel_rfl))⟩
  f11 := ⟨Tryd.f295.name, by decide, Tryd.func295.trans (congrArg some (by kernel_rfl))⟩
  t0 := Tryd.underlying0
  a0 := Tryd.isAgg0
  z0 := Tryd.sizeOf0
  v0 := Tryd.zeroValue0
  t24 := Tryd.underlying22
  a24 := Tryd.isAgg22
  z24 := Tryd.sizeOf22
  v24 := Tryd.zeroValue22
  t26 := Tryd.underlying9
  a26 := Tryd.isAgg9
  z26 := Tryd.sizeOf9
  v26 := Tryd.zeroValue9
  t28 := Tryd.underlying294
  a28 := Tryd.isAgg294
  z28 := Tryd.sizeOf294
  v28 := Tryd.zeroValue294
  i26 := by kernel_rfl }
def Tryd.sort275_ren : Go.Shelf.Ren := ⟨fun | 6 => 275 | 8 => 291 | 9 => 296 | 19 => 314 | 20 => 315 | 21 => 319 | 22 => 320 | 23 => 321 | 24 => 322 | 25 => 323 | 26 => 324 | 27 => 325 | 28 => 326 | 29 => 327 | 36 => 356 | 31 => 351 | 32 => 352 | 37 => 357 | 38 => 358 | 39 => 359 | 41 => 369 | n => n, fun | 27 => 22 | 29 => 9 | 3 => 3 | 32 => 279 | 26 => 22 | 0 => 0 | 44 => 366 | 46 => 281 | 4 => 4 | 36 => 359 | 35 => 358 | 41 => 363 | 5 => 5 | 9 => 9 | 53 => 390 | 57 => 393 | 63 => 401 | 64 => 402 | n => n, fun | n => n⟩
theorem Tryd.sort275 : Go.Proofs.SlLaysM.n6 Tryd.prog Tryd.sort275_ren := {
  mixed := by kernel_rfl
  f6 := ⟨Tryd.f275.name, by decide, Tryd.func275.trans (congrArg some (by kernel_rfl))⟩
  f8 := Tryd.func291.trans (congrArg some (by kernel_rfl))
  f9 := ⟨Tryd.f296.name, by decide, Tryd.func296.trans (congrArg some (by kernel_rfl))⟩
  f19 := Tryd.func314.trans (congrArg some (by kernel_rfl))
  f20 := Tryd.func315.trans (congrArg some (by kernel_rfl))
  f21 := ⟨Tryd.f319.name, by decide, Tryd.func319.trans (congrArg some (by kernel_rfl))⟩
  f22 := ⟨Tryd.f320.name, by decide, Tryd.func320.trans (congrArg some (by kernel_rfl))⟩
  f23 := ⟨Tryd.f321.name, by decide, Tryd.func321.trans (congrArg some (by kernel_rfl))⟩
  f24 := ⟨Tryd.f322.name, by decide, Tryd.func322.trans (congrArg some (by kernel_rfl))⟩
  f25 := ⟨Tryd.f323.name, by decide, Tryd.func323.trans (congrArg some (by kernel_rfl))⟩
  f26 := ⟨Tryd.f324.name, by decide, Tryd.func324.trans (congrArg some (by kernel_rfl))⟩
  f27 := ⟨Tryd.f325.name, by decide, Tryd.func325.trans (congrArg some (by kernel_rfl))⟩
  f28 := ⟨Tryd.f326.name, by decide, Tryd.func326.trans (congrArg some (by kernel_rfl))⟩
  f29 := ⟨Tryd.f327.name, by decide, Tryd.func327.trans (congrArg some (by kernel_rfl))⟩
  f31 := Tryd.func351.trans (congrArg some (by kernel_rfl))
  f32 := Tryd.func352.trans (congrArg some (by kernel_rfl))
  f36 := ⟨Tryd.f356.name, by decide, Tryd.func356.trans (congrArg some (by kernel_rfl))⟩
  f37 := ⟨Tryd.f357.name, by decide, Tryd.func357.trans (congrArg some (by kernel_rfl))⟩
  f38 := ⟨Tryd.f358.name, by decide, Tryd.func358.trans (congrArg some (by kernel_rfl))⟩
  f39 := ⟨Tryd.f359.name, by decide, Tryd.func359.trans (congrArg some (by kernel_rfl))⟩
  f41 := ⟨Tryd.f369.name, by decide, Tryd.func369.trans (congrArg some (by kernel_rfl))⟩
  t0 := Tryd.underlying0
  a0 := Tryd.isAgg0
  z0 := Tryd.sizeOf0
  v0 := Tryd.zeroValue0
  t3 := Tryd.underlying3
  a3 := Tryd.isAgg3
  z3 := Tryd.sizeOf3
  v3 := Tryd.zeroValue3
  t4 := Tryd.underlying4
  a4 := Tryd.isAgg4
  z4 := Tryd.sizeOf4
  v4 := Tryd.zeroValue4
  t5 := Tryd.underlying5
  a5 := Tryd.isAgg5
  z5 := Tryd.sizeOf5
  v5 := Tryd.zeroValue5
  t9 := Tryd.underlying9
  a9 := Tryd.isAgg9
  z9 := Tryd.sizeOf9
  v9 := Tryd.zeroValue9
  t26 := Tryd.underlying22
  a26 := Tryd.isAgg22
  z26 := Tryd.sizeOf22
  v26 := Tryd.zeroValue22
  t27 := Tryd.underlying22
  a27 := Tryd.isAgg22
  z27 := Tryd.sizeOf22
  v27 := Tryd.zeroValue22
  t29 := Tryd.underlying9
  a29 := Tryd.isAgg9
  z29 := Tryd.sizeOf9
  v29 := Tryd.zeroValue9
  t32 := Tryd.underlying279
  a32 := Tryd.isAgg279
  z32 := Tryd.sizeOf279
  v32 := Tryd.zeroValue279
  t35 := Tryd.underlying358
  a35 := Tryd.isAgg358
  z35 := Tryd.sizeOf358
  v35 := Tryd.zeroValue358
  t36 := Tryd.underlying359
  a36 := Tryd.isAgg359
  z36 := Tryd.sizeOf359
  v36 := Tryd.zeroValue359
  t41 := Tryd.underlying363
  a41 := Tryd.isAgg363
  z41 := Tryd.sizeOf363
  v41 := Tryd.zeroValue363
  t44 := Tryd.underlying366
  a44 := Tryd.isAgg366
  z44 := Tryd.sizeOf366
  v44 := Tryd.zeroValue366
  t46 := Tryd.underlying281
  a46 := Tryd.isAgg281
  z46 := Tryd.sizeOf281
  v46 := Tryd.zeroValue281
  t53 := Tryd.underlying390
  a53 := Tryd.isAgg390
  z53 := Tryd.sizeOf390
  v53 := Tryd.zeroValue390
  t57 := Tryd.underlying393
  a57 := Tryd.isAgg393
  z57 := Tryd.sizeOf393
  v57 := Tryd.zeroValue393
  t63 := Tryd.underlying401
  a63 := Tryd.isAgg401
  z63 := Tryd.sizeOf401
  v63 := Tryd.zeroValue401
  t64 := Tryd.underlying402
  a64 := Tryd.isAgg402
  z64 := Tryd.sizeOf402
  v64 := Tryd.zeroValue402 }
open Go.RowKit Go.Maps Go.Sort Go.Shelf in
theorem Tryd.sorts241 (m : Nat) : AnyZ.SortsIn Tryd.prog Tryd.sorted241_ren Fence.wide m :=
  ⟨fun blk off cap ss W hH hblk hsz => callsIn_wide.2 (AnyM.slices_Sort_string Tryd.sort275 blk off cap ss W hH hblk hsz),
   fun p cap W => callsIn_wide.2 (AnyM.slices_Sort_string_none Tryd.sort275 p cap W)⟩
open Go.RowKit Go.Maps Go.Sort Go.Shelf in
theorem Tryd.maps_Keys_242 (mb : Option Nat) (W : World) : CallsIn Fence.wide 5 Tryd.prog 242 #[.map mb] W fun e w' => e = .returned (.func (.func 276) #[] #[.pointer (some ⟨W.heap.size, 0, none⟩)]) ∧ w' = W.alloc (.cells #[.map mb] 130) :=
  AnyZ.keys_in Tryd.keys242 Fence.wide 5 trivial rfl mb W
open Go.RowKit Go.Maps Go.Sort Go.Shelf in
theorem Tryd.slices_Sorted_keys_241_242 {H : Type} (b nn : Nat) (D0 : DataW H) (R : Value → Option (DataW H × List MemPlace)) (w : World) (hown : w.ownsMap Tryd.prog 9 R b nn D0) (hmax : Maps.size D0 ≤ maxLen) (hbytes : Maps.size D0 * 16 ≤ 140737488355328) :
    CallsIn Fence.wide 5 Tryd.prog 241 #[.func (.func 276) #[] #[.pointer (some ⟨w.heap.size, 0, none⟩)]] (w.alloc (.cells #[.map (some b)] 130)) fun e w' => ∃ (v : Value) (ss : List (List UInt8)), e = .returned v ∧ ss.Perm (strKeys D0) ∧
      w'.ownsRow (w.alloc (.cells #[.map (some b)] 130)).heap.size 9 1 v ss.length ((ss.mergeSort (fun x y => decide (x ≤ y))).map encStr) ∧ (v = .slice none 0 0 ↔ ss = []) ∧ Below (w.alloc (.cells #[.map (some b)] 130)).heap.size (w.alloc (.cells #[.map (some b)] 130)) w' := by
  have hbl := hown.lt
  have hseq : SeqGives Fence.wide 2 Tryd.prog 276 #[.pointer (some ⟨w.heap.size, 0, none⟩)] encStr (fun ss => ss.Perm (strKeys D0)) (Maps.size D0) (w.alloc (.cells #[.map (some b)] 130)) :=
    AnyZ.keys_gives (ρ := Tryd.keys242_ren) { Tryd.keys242 with } Fence.wide _ trivial rfl (by omega) w.heap.size b nn D0 _ (by simp) (by simp) (by
      obtain ⟨es, clock, hb, Ft, hs, hD⟩ := hown
      exact ⟨es, clock, (Below.heap_alloc _ _ b hbl).trans hb, Ft, hs, hD⟩)
  exact AnyZ.sorted_in Tryd.sorted241 Fence.wide 5 trivial trivial trivial trivial rfl (by omega) (Tryd.sorts241 _) (enters_of Tryd.func275 (by kernel_rfl) rfl) 276 #[.pointer (some ⟨w.heap.size, 0, none⟩)] trivial (enters_of Tryd.func276 (by kernel_rfl) rfl) _ _ hmax hbytes _ hseq
open Go.RowKit Go.Maps Go.Sort Go.Shelf in
theorem Tryd.slices_Sorted_keys_nil_241_242 (w : World) :
    CallsIn Fence.wide 5 Tryd.prog 241 #[.func (.func 276) #[] #[.pointer (some ⟨w.heap.size, 0, none⟩)]] (w.alloc (.cells #[.map none] 130)) fun e w' => ∃ (v : Value) (ss : List (List UInt8)), e = .returned v ∧ ss = [] ∧
      w'.ownsRow (w.alloc (.cells #[.map none] 130)).heap.size 9 1 v ss.length ((ss.mergeSort (fun x y => decide (x ≤ y))).map encStr) ∧ (v = .slice none 0 0 ↔ ss = []) ∧ Below (w.alloc (.cells #[.map none] 130)).heap.size (w.alloc (.cells #[.map none] 130)) w' := by
  have hseq : SeqGives Fence.wide 2 Tryd.prog 276 #[.pointer (some ⟨w.heap.size, 0, none⟩)] encStr (fun ss : List (List UInt8) => ss = []) 0 (w.alloc (.cells #[.map none] 130)) :=
    AnyZ.keys_gives_nil (ρ := Tryd.keys242_ren) { Tryd.keys242 with } Fence.wide _ trivial rfl w.heap.size _ (by simp) (by simp)
  exact AnyZ.sorted_in Tryd.sorted241 Fence.wide 5 trivial trivial trivial trivial rfl (by omega) (Tryd.sorts241 _) (enters_of Tryd.func275 (by kernel_rfl) rfl) 276 #[.pointer (some ⟨w.heap.size, 0, none⟩)] trivial (enters_of Tryd.func276 (by kernel_rfl) rfl) _ 0 (Nat.zero_le _) (by omega) _ hseq
def Tryd.keys255_ren : Go.Shelf.Ren := ⟨fun | 7 => 255 | 10 => 285 | n => n, fun | 23 => 181 | 26 => 9 | 3 => 251 | 28 => 294 | 0 => 0 | 27 => 293 | 33 => 206 | 4 => 4 | n => n, fun | n => n⟩
theorem Tryd.keys255 : Go.Proofs.SlLaysZ.n7 Tryd.prog Tryd.keys255_ren := {
  mixed := by kernel_rfl
  f7 := ⟨Tryd.f255.name, by decide, Tryd.func255.trans (congrArg some (by kernel_rfl))⟩
  f10 := ⟨Tryd.f285.name, by decide, Tryd.func285.trans (congrArg some (by kernel_rfl))⟩
  t0 := Tryd.underlying0
  a0 := Tryd.isAgg0
  z0 := Tryd.sizeOf0
  v0 := Tryd.zeroValue0
  t4 := Tryd.underlying4
  a4 := Tryd.isAgg4
  z4 := Tryd.sizeOf4
  v4 := Tryd.zeroValue4
  t23 := Tryd.underlying181
  a23 := Tryd.isAgg181
  z23 := Tryd.sizeOf181
  v23 := Tryd.zeroValue181
  t26 := Tryd.underlying9
  a26 := Tryd.isAgg9
  z26 := Tryd.sizeOf9
  v26 := Tryd.zeroValue9
  t27 := Tryd.underlying293
  a27 := Tryd.isAgg293
  z27 := Tryd.sizeOf293
  v27 := Tryd.zeroValue293
  t28 := Tryd.underlying294
  a28 := Tryd.isAgg294
  z28 := Tryd.sizeOf294
  v28 := Tryd.zeroValue294
  t33 := Tryd.underlying206
  a33 := Tryd.isAgg206
  z33 := Tryd.sizeOf206
  v33 := Tryd.zeroValue206 }
open Go.RowKit Go.Maps Go.Sort Go.Shelf in
theorem Tryd.maps_Keys_255 (mb : Option Nat) (W : World) : CallsIn Fence.wide 5 Tryd.prog 255 #[.map mb] W fun e w' => e = .returned (.func (.func 285) #[] #[.pointer (some ⟨W.heap.size, 0, none⟩)]) ∧ w' = W.alloc (.cells #[.map mb] 181) :=
  AnyZ.keys_in Tryd.keys255 Fence.wide 5 trivial rfl mb W
open Go.RowKit Go.Maps Go.Sort Go.Shelf in
theorem Tryd.slices_Sorted_keys_241_255 {H : Type} (b nn : Nat) (D0 : DataW H) (R : Value → Option (DataW H × List MemPlace)) (w : World) (hown : w.ownsMap Tryd.prog 9 R b nn D0) (hmax : Maps.size D0 ≤ maxLen) (hbytes : Maps.size D0 * 16 ≤ 140737488355328) :
    CallsIn Fence.wide 5 Tryd.prog 241 #[.func (.func 285) #[] #[.pointer (some ⟨w.heap.size, 0, none⟩)]] (w.alloc (.cells #[.map (some b)] 181)) fun e w' => ∃ (v : Value) (ss : List (List UInt8)), e = .returned v ∧ ss.Perm (strKeys D0) ∧
      w'.ownsRow (w.alloc (.cells #[.map (some b)] 181)).heap.size 9 1 v ss.length ((ss.mergeSort (fun x y => decide (x ≤ y))).map encStr) ∧ (v = .slice none 0 0 ↔ ss = []) ∧ Below (w.alloc (.cells #[.map (some b)] 181)).heap.size (w.alloc (.cells #[.map (some b)] 181)) w' := by
  have hbl := hown.lt
  have hseq : SeqGives Fence.wide 2 Tryd.prog 285 #[.pointer (some ⟨w.heap.size, 0, none⟩)] encStr (fun ss => ss.Perm (strKeys D0)) (Maps.size D0) (w.alloc (.cells #[.map (some b)] 181)) :=
    AnyZ.keys_gives (ρ := Tryd.keys255_ren) { Tryd.keys255 with } Fence.wide _ trivial rfl (by omega) w.heap.size b nn D0 _ (by simp) (by simp) (by
      obtain ⟨es, clock, hb, Ft, hs, hD⟩ := hown
      exact ⟨es, clock, (Below.heap_alloc _ _ b hbl).trans hb, Ft, hs, hD⟩)
  exact AnyZ.sorted_in Tryd.sorted241 Fence.wide 5 trivial trivial trivial trivial rfl (by omega) (Tryd.sorts241 _) (enters_of Tryd.func275 (by kernel_rfl) rfl) 285 #[.pointer (some ⟨w.heap.size, 0, none⟩)] trivial (enters_of Tryd.func285 (by kernel_rfl) rfl) _ _ hmax hbytes _ hseq
open Go.RowKit Go.Maps Go.Sort Go.Shelf in
theorem Tryd.slices_Sorted_keys_nil_241_255 (w : World) :
    CallsIn Fence.wide 5 Tryd.prog 241 #[.func (.func 285) #[] #[.pointer (some ⟨w.heap.size, 0, none⟩)]] (w.alloc (.cells #[.map none] 181)) fun e w' => ∃ (v : Value) (ss : List (List UInt8)), e = .returned v ∧ ss = [] ∧
      w'.ownsRow (w.alloc (.cells #[.map none] 181)).heap.size 9 1 v ss.length ((ss.mergeSort (fun x y => decide (x ≤ y))).map encStr) ∧ (v = .slice none 0 0 ↔ ss = []) ∧ Below (w.alloc (.cells #[.map none] 181)).heap.size (w.alloc (.cells #[.map none] 181)) w' := by
  have hseq : SeqGives Fence.wide 2 Tryd.prog 285 #[.pointer (some ⟨w.heap.size, 0, none⟩)] encStr (fun ss : List (List UInt8) => ss = []) 0 (w.alloc (.cells #[.map none] 181)) :=
    AnyZ.keys_gives_nil (ρ := Tryd.keys255_ren) { Tryd.keys255 with } Fence.wide _ trivial rfl w.heap.size _ (by simp) (by simp)
  exact AnyZ.sorted_in Tryd.sorted241 Fence.wide 5 trivial trivial trivial trivial rfl (by omega) (Tryd.sorts241 _) (enters_of Tryd.func275 (by kernel_rfl) rfl) 285 #[.pointer (some ⟨w.heap.size, 0, none⟩)] trivial (enters_of Tryd.func285 (by kernel_rfl) rfl) _ 0 (Nat.zero_le _) (by omega) _ hseq
end Go.Proofs
