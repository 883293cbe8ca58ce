/- The specification's kind and parts of a text, by induction on how many brackets may still come; texts of at most 1048576 bytes. -/
import Derived.Test.YtjaaplcgphlccaaGreatDoorSpecCut
import Derived.Test.YtjaaplcgphlccaaGreatDoorTermBoth
import Derived.Deep.RegionWith
namespace Go.Proofs.YtjaaplcgphlccaaGreatDoor
open Go.RowKit
open Go.Lib (hid)

def KindOut (w : World) (d : Nat) (l : List UInt8) (e : Ending) (w' : World) : Prop :=
  ∃ sv, e = .returned (.tuple #[.int .i64 ((kindS d l).1 : Nat), sv]) ∧ Below w.heap.size w w' ∧ w'.ownsRow w.heap.size 9 1 sv (kindS d l).2.length (strs (kindS d l).2)

def KindAll (d : Nat) : Prop := ∀ (s : ByteArray) (w : World) (a : Int), a = d → s.size ≤ 1048576 → Calls Tryz.prog 50 #[.string s, .int .i64 a] w (KindOut w d s.data.toList)

theorem KindOut.empty {w w' : World} {d k : Nat} {l : List UInt8} {sv : Value} (h : kindS d l = (k, [])) (hb : Below w.heap.size w w') (ho : w'.ownsRow w.heap.size 9 1 sv 0 []) : KindOut w d l (.returned (.tuple #[.int .i64 (k : Nat), sv])) w' := by
  refine ⟨sv, by rw [h], hb, ?_⟩
  rw [h]
  exact ho

theorem none_own (w : World) : (w.alloc (.cells #[] 9)).ownsRow w.heap.size 9 1 (.slice (some ⟨w.heap.size, 0, none⟩) 0 0) 0 [] := World.ownsRow_made w #[] 0 (Nat.le_refl _) (Nat.zero_le _) rfl

theorem kind_name (d : Nat) (s : ByteArray) (w : World) (a : Int) (hn : nameB s.data.toList = true) :
    Calls Tryz.prog 50 #[.string s, .int .i64 a] w (KindOut w d s.data.toList) := by
  have hk : kindS d s.data.toList = (1, []) := by cases d <;> simp [kindS, hn]
  have HK := hid hk
  have HN := hid hn
  clear hk hn
  go_enter Tryz.func50, Tryz.ntmps50
  go_wp2_with (go_at_call 48; refine (sname_calls _ _).mono ?_; rintro e w' ⟨rfl, rfl⟩; rw [HN.out])
  go_ret2
  exact KindOut.empty HK.out ((Below.refl _ _).alloc (Nat.le_refl _) _) (none_own _)

theorem kind_secret (d : Nat) (s : ByteArray) (w : World) (a : Int) (hs : secretB s.data.toList = true) :
    Calls Tryz.prog 50 #[.string s, .int .i64 a] w (KindOut w d s.data.toList) := by
  have hn := secret_not_name hs
  have hk : kindS d s.data.toList = (2, []) := by cases d <;> simp [kindS, hn, hs]
  have HK := hid hk
  have HN := hid hn
  have HS := hid hs
  clear hk hn hs
  go_enter Tryz.func50, Tryz.ntmps50
  go_wp2_with (first | (go_at_call 48; refine (sname_calls _ _).mono ?_; rintro e w' ⟨rfl, rfl⟩; rw [HN.out]) | (go_at_call 72; refine (ssecret_calls _ _).mono ?_; rintro e w' ⟨rfl, rfl⟩; rw [HS.out]))
  go_ret2
  exact KindOut.empty HK.out ((Below.refl _ _).alloc (Nat.le_refl _) _) (none_own _)

/-- The first test of what stands in brackets. -/
def Brackets (s : ByteArray) : Prop := ∃ h : 2 ≤ s.size, s[0] = 40 ∧ s[s.size - 1] = 41

theorem kind_no (d : Nat) (s : ByteArray) (w : World) (a : Int) (hsm : s.size ≤ 1048576) (ha : a = d) (hn : nameB s.data.toList = false) (hs : secretB s.data.toList = false) (hb : d = 0 ∨ ¬ Brackets s) (hk : kindS d s.data.toList = (0, [])) :
    Calls Tryz.prog 50 #[.string s, .int .i64 a] w (KindOut w d s.data.toList) := by
  have HK := hid hk
  have HN := hid hn
  have HS := hid hs
  clear hk hn hs
  by_cases hd : a = 0
  · have h0 : (a == 0) = true := by rw [beq_iff_eq]; exact hd
    have HH := hid hd
    clear hd ha hb
    go_enter Tryz.func50, Tryz.ntmps50
    go_wp2_with (first | (go_at_call 48; refine (sname_calls _ _).mono ?_; rintro e w' ⟨rfl, rfl⟩; rw [HN.out]) | (go_at_call 72; refine (ssecret_calls _ _).mono ?_; rintro e w' ⟨rfl, rfl⟩; rw [HS.out]))
    go_ret2
    exact KindOut.empty HK.out ((Below.refl _ _).alloc (Nat.le_refl _) _) (none_own _)
  · have h0 : (a == 0) = false := by rw [beq_eq_false_iff_ne]; exact hd
    have hnb : ¬ Brackets s := by
      rcases hb with hb | hb
      · omega
      · exact hb
    clear hb hd ha
    by_cases h2 : 2 ≤ s.size
    · have i2 : ¬ (s.size : Int) < 2 := by omega
      have hz : 0 < s.size := by omega
      have hl : s.size - 1 < s.size := by omega
      by_cases h40 : s[0] = 40
      · have h41 : s[s.size - 1] ≠ 41 := fun h => hnb ⟨h2, h40, h⟩
        have b40 : ((s[0].toNat : Int) != 40) = false := by rw [h40]; rfl
        have b41 : ((s[s.size - 1].toNat : Int) != 41) = true := by
          have := ne_byte h41
          simpa [bne] using this
        clear h40 h41 hnb
        go_enter Tryz.func50, Tryz.ntmps50
        go_wp2_with (first | (go_at_call 48; refine (sname_calls _ _).mono ?_; rintro e w' ⟨rfl, rfl⟩; rw [HN.out]) | (go_at_call 72; refine (ssecret_calls _ _).mono ?_; rintro e w' ⟨rfl, rfl⟩; rw [HS.out]))
        go_ret2
        exact KindOut.empty HK.out ((Below.refl _ _).alloc (Nat.le_refl _) _) (none_own _)
      · have b40 : ((s[0].toNat : Int) != 40) = true := by
          have := ne_byte h40
          simpa [bne] using this
        clear h40 hnb
        go_enter Tryz.func50, Tryz.ntmps50
        go_wp2_with (first | (go_at_call 48; refine (sname_calls _ _).mono ?_; rintro e w' ⟨rfl, rfl⟩; rw [HN.out]) | (go_at_call 72; refine (ssecret_calls _ _).mono ?_; rintro e w' ⟨rfl, rfl⟩; rw [HS.out]))
        go_ret2
        exact KindOut.empty HK.out ((Below.refl _ _).alloc (Nat.le_refl _) _) (none_own _)
    · have i2 : (s.size : Int) < 2 := by omega
      clear h2 hnb
      go_enter Tryz.func50, Tryz.ntmps50
      go_wp2_with (first | (go_at_call 48; refine (sname_calls _ _).mono ?_; rintro e w' ⟨rfl, rfl⟩; rw [HN.out]) | (go_at_call 72; refine (ssecret_calls _ _).mono ?_; rintro e w' ⟨rfl, rfl⟩; rw [HS.out]))
      go_ret2
      exact KindOut.empty HK.out ((Below.refl _ _).alloc (Nat.le_refl _) _) (none_own _)

/-- The pieces, as they lie in their row. -/
def KRow (w : World) (g : Nat) (ps : List (List UInt8)) : Prop := g < w.heap.size ∧ ∀ j (hj : j < ps.length), w.cell? ⟨g, j, none⟩ = some (.string ⟨ps[j].toArray⟩)

theorem KRow.on {w w' : World} {g : Nat} {ps : List (List UInt8)} (h : KRow w g ps) (hb : Below w.heap.size w w') : KRow w' g ps :=
  ⟨Nat.lt_of_lt_of_le h.1 hb.size, fun j hj => by rw [hb.cell (p := ⟨g, j, none⟩) h.1]; exact h.2 j hj⟩

theorem own_on {w w' : World} {base size n : Nat} {e : TypeId} {v : Value} {xs : List Value} (h : w.ownsRow base e size v n xs) (hb : Below w.heap.size w w') : w'.ownsRow base e size v n xs := by
  refine ⟨h.1, ?_⟩
  rcases h.2 with hn | ⟨g, cap, cur, e1, hbg, hg, rest⟩
  · exact Or.inl hn
  · exact Or.inr ⟨g, cap, cur, e1, hbg, (hb.block g (Array.getElem?_eq_some_iff.1 hg).1).trans hg, rest⟩

theorem addr_at (g j : Nat) : (⟨g, 0, none⟩ : Addr).add j = ⟨g, j, none⟩ := by
  unfold Addr.add
  split <;> simp_all

theorem row_shape {w : World} {base : Nat} {sv : Value} {ps : List (List UInt8)} (h : w.ownsRow base 9 1 sv ps.length (strs ps)) : ∃ p c, sv = .slice p ps.length c := by
  rcases h.2 with ⟨hv, hz⟩ | ⟨g, cap, cur, e1, _⟩
  · exact ⟨none, 0, by rw [hv, hz]⟩
  · exact ⟨_, _, e1⟩

theorem krow_of {w : World} {base : Nat} {sv : Value} {ps : List (List UInt8)} (h : w.ownsRow base 9 1 sv ps.length (strs ps)) (hn : 0 < ps.length) : ∃ g c, sv = .slice (some ⟨g, 0, none⟩) ps.length c ∧ KRow w g ps ∧ base ≤ g ∧ ps.length ≤ c := by
  rcases h.2 with ⟨_, hz⟩ | ⟨g, cap, cur, e1, hbg, hg, hnc, _⟩
  · omega
  · refine ⟨g, cap, e1, ⟨(Array.getElem?_eq_some_iff.1 hg).1, fun j hj => ?_⟩, hbg, hnc⟩
    have := h.cells (g := g) (by rw [e1]; rfl) j (.string ⟨ps[j].toArray⟩) (by simp [strs, hj])
    rw [addr_at] at this
    exact this

theorem inner_bytes (s : ByteArray) (h : Brackets s) : inner s.data.toList = some (s.extract 1 (s.size - 1)).data.toList := by
  obtain ⟨h2, h40, h41⟩ := h
  rw [inner_some, Lib.extract_data]
  have hsz : s.data.toList.length = s.size := by simp
  have e0 : s.data.toList.drop 0 = s[0] :: s.data.toList.drop 1 := drop_at s 0 (by omega)
  rw [List.drop_zero, h40] at e0
  have e1 : s.data.toList.drop (s.size - 1) = s[s.size - 1] :: s.data.toList.drop (s.size - 1 + 1) := drop_at s (s.size - 1) (by omega)
  have e2 : s.data.toList.drop (s.size - 1 + 1) = [] := List.drop_eq_nil_of_le (by omega)
  rw [h41, e2] at e1
  rw [e0]
  congr 1
  have : (s.data.toList.drop 1).drop (s.size - 1 - 1) = [41] := by rw [List.drop_drop, show 1 + (s.size - 1 - 1) = s.size - 1 by omega]; exact e1
  have h3 := List.take_append_drop (s.size - 1 - 1) (s.data.toList.drop 1)
  rw [this] at h3
  exact h3.symm

set_option maxHeartbeats 1000000 in
theorem kind_cutno (d : Nat) (s : ByteArray) (w : World) (a : Int) (hsm : s.size ≤ 1048576) (ha : a ≠ 0) (hn : nameB s.data.toList = false) (hs : secretB s.data.toList = false) (hb : Brackets s) (hk : kindS d s.data.toList = (0, []))
    (hc : ∀ ps, cutGo 0 [] (s.extract 1 (s.size - 1)).data.toList = some ps → ps.length < 2) :
    Calls Tryz.prog 50 #[.string s, .int .i64 a] w (KindOut w d s.data.toList) := by
  have HK := hid hk
  have HN := hid hn
  have HS := hid hs
  have HC := hid hc
  have h0 : (a == 0) = false := by rw [beq_eq_false_iff_ne]; exact ha
  obtain ⟨h2, h40, h41⟩ := hb
  have i2 : ¬ (s.size : Int) < 2 := by omega
  have hz : 0 < s.size := by omega
  have hl : s.size - 1 < s.size := by omega
  have b40 : ((s[0].toNat : Int) != 40) = false := by rw [h40]; rfl
  have b41 : ((s[s.size - 1].toNat : Int) != 41) = false := by rw [h41]; rfl
  have hms : (s.extract 1 (s.size - 1)).size ≤ 1048576 := by
    have : (s.extract 1 (s.size - 1)).size = min (s.size - 1) s.size - 1 := by simp
    omega
  clear hk hn hs hc ha h40 h41 h2
  go_enter Tryz.func50, Tryz.ntmps50
  go_wp2_with (first | (go_at_call 48; refine (sname_calls _ _).mono ?_; rintro e w' ⟨rfl, rfl⟩; rw [HN.out]) | (go_at_call 72; refine (ssecret_calls _ _).mono ?_; rintro e w' ⟨rfl, rfl⟩; rw [HS.out]) | (go_at_call 73; refine (cut_calls _ hms _).mono ?_; rintro e w2 ⟨sv, r, rfl, hb2, hor⟩; refine Hid.out ?_))
  refine hid ?_
  have hbel := ((Below.refl w.heap.size w).alloc (Nat.le_refl _) (.cells #[] 9)).trans (hb2.mono (by simp))
  have hnone := own_on (none_own w) hb2
  rcases hor with ⟨ps, hps, hr, hown⟩ | ⟨_, hr⟩
  · have hlt := HC.out ps hps
    obtain ⟨p, c, hsv⟩ := row_shape hown
    subst hsv
    subst hr
    have i3 : (ps.length : Int) < 2 := by omega
    have HO := hid hnone
    have HB := hid hbel
    clear hps hown hb2 hnone hbel
    go_wp2
    go_ret2
    exact KindOut.empty HK.out HB.out HO.out
  · subst hr
    have HO := hid hnone
    have HB := hid hbel
    clear hb2 hnone hbel
    go_wp2
    go_ret2
    exact KindOut.empty HK.out HB.out HO.out
end Go.Proofs.YtjaaplcgphlccaaGreatDoor
