/- Certs, plainly: when one is formed, what CertBy makes, whose it is. -/
import Derived.Test.YtjaaplcgphlccaaGreatDoorSignPlain
namespace Go.Proofs.YtjaaplcgphlccaaGreatDoor

def certT : List UInt8 := [99, 101, 114, 116]

/-- The name for a number, nothing where there is none. -/
def numL (n : Int) : List UInt8 := if 0 ≤ n ∧ n ≤ 1000000000 then Num.nameOf n.toNat else []
def numB (n : Int) : Bool := decide (0 ≤ n ∧ n ≤ 1000000000)

def certPs (name key : List UInt8) (f u : Int) : List (List UInt8) := [certT, name, key, numL f, numL u]

/-- Its name, its key and its times are as they should be. -/
def cpreB (name key : ByteArray) (f u : Int) : Bool := nameB name.data.toList && (decide ((nodeOf key).1 = 6) && (decide (0 ≤ f ∧ f ≤ u) && decide (u ≤ 1000000000)))
def cformB (name key : ByteArray) (f u : Int) (sign : ByteArray) : Bool := cpreB name key f u && decide ((nodeOf sign).1 ≠ 0)

/-- Is there a Cert, and its Sign. -/
def certO (secret : List UInt8) (name key : ByteArray) (f u : Int) : Bool × List UInt8 :=
  if cpreB name key f u = true then signO secret (certPs name.data.toList key.data.toList f u) else (false, [])

theorem cpreB_nums {name key : ByteArray} {f u : Int} (h : cpreB name key f u = true) : nameB name.data.toList = true ∧ (nodeOf key).1 = 6 ∧ 0 ≤ f ∧ f ≤ u ∧ u ≤ 1000000000 := by
  unfold cpreB at h
  simp only [Bool.and_eq_true, decide_eq_true_eq] at h
  exact ⟨h.1, h.2.1, h.2.2.1.1, h.2.2.1.2, h.2.2.2⟩

theorem nums_few {name key : ByteArray} {f u : Int} (h : ¬ ((0 ≤ f ∧ f ≤ 1000000000) ∧ (0 ≤ u ∧ u ≤ 1000000000))) : cpreB name key f u = false := by
  cases hp : cpreB name key f u with
  | false => rfl
  | true => obtain ⟨_, _, h1, h2, h3⟩ := cpreB_nums hp; exact absurd ⟨⟨h1, by omega⟩, by omega, h3⟩ h

theorem certO_form {secret : List UInt8} {name key : ByteArray} {f u : Int} (h : (signO secret (certPs name.data.toList key.data.toList f u)).1 = true) : cformB name key f u (bytesOf (signO secret (certPs name.data.toList key.data.toList f u)).2) = cpreB name key f u := by
  unfold cformB
  rw [signO_node h]
  simp

theorem sign_few {secret : List UInt8} {name key : ByteArray} {f u : Int} (h : ¬ ((0 ≤ f ∧ f ≤ 1000000000) ∧ (0 ≤ u ∧ u ≤ 1000000000))) : signO secret (certPs name.data.toList key.data.toList f u) = (false, []) := by
  apply signO_empty
  unfold certPs numL
  by_cases hf : 0 ≤ f ∧ f ≤ 1000000000
  · rw [if_neg (fun hu => h ⟨hf, hu⟩)]
    simp
  · rw [if_neg hf]
    simp

/-- Whose it is: the secret of the public key that is the issuer makes it. -/
def isOfB (issuer name key : ByteArray) (f u : Int) (sign : ByteArray) : Bool :=
  decide ((nodeOf issuer).1 = 6) && ((certO ((nodeOf issuer).2.headD []) name key f u).1 && decide ((certO ((nodeOf issuer).2.headD []) name key f u).2 = sign.data.toList))

/-- The code of a Cert. -/
def checkO (name key : ByteArray) (f u : Int) (sign issuer : ByteArray) (now : Int) : Int :=
  if cformB name key f u sign = true then (if isOfB issuer name key f u sign = true then (if now < f then 3 else if u < now then 4 else 0) else 2) else 1

theorem node_brk {s : ByteArray} {k : Nat} {ps : List (List UInt8)} (h : nodeOf s = (k, ps)) (h3 : 3 ≤ k) : s.data.toList = tmWith k ps ∧ shapeB k ps = true := by
  have h0 : (nodeOf s).1 ≠ 0 := by rw [h]; show k ≠ 0; omega
  have h4 := node_size h0
  unfold nodeOf at h
  rw [if_pos h4] at h
  have e : kindS 40 s.data.toList = if nameB s.data.toList then (1, []) else if secretB s.data.toList then (2, []) else brk (fun x => (kindS 39 x).1) s.data.toList := rfl
  rw [e] at h
  split at h
  · injection h with h1 _; omega
  · split at h
    · injection h with h1 _; omega
    · obtain ⟨_, ht, _, _, _, hs, _⟩ := brk_some h (by omega)
      exact ⟨ht, hs⟩

theorem kind_pub {p : List UInt8} (h : secretB p = true) (d : Nat) : kindS (d + 1) (tmWith 6 [p]) = (6, [p]) := by
  have e : kindS (d + 1) (tmWith 6 [p]) = brk (fun x => (kindS d x).1) (tmWith 6 [p]) := by
    show (if nameB (tmWith 6 [p]) then (1, []) else if secretB (tmWith 6 [p]) then (2, []) else brk (fun x => (kindS d x).1) (tmWith 6 [p])) = _
    rw [show nameB (tmWith 6 [p]) = false from low_not40.1, show secretB (tmWith 6 [p]) = false from low_not40.2]
    rfl
  have hin : (inner (tmWith 6 [p])).bind (cutGo 0 []) = some (wordOf 6 :: [p]) := by
    rw [show inner (tmWith 6 [p]) = some (glue (wordOf 6 :: [p])) from inner_some.2 rfl, Option.bind_some]
    rw [cut_glue (wordOf 6 :: [p]) (by simp) (fun x hx => ?_) []]
    · simp
    · rcases List.mem_cons.1 hx with rfl | hx
      · exact pass_name (word_all (by omega) (by omega))
      · obtain rfl : x = p := by simpa using hx
        exact pass_secret h
  rw [e]
  unfold brk
  rw [hin]
  have hw : kindOfW (wordOf 6) = 6 := kindOfW_word (by omega) (by omega)
  have hk : (kindS d p).1 = 2 := kind_two.2 h
  simp only [hw]
  rw [if_pos]
  refine ⟨by omega, ?_, ?_⟩
  · unfold shapeB
    rw [show ([p] : List (List UInt8)).headD [] = p from rfl, h]
    rfl
  · simp [hk]

theorem secret_size {p : List UInt8} (h : secretB p = true) : p.length ≤ 13 := by
  unfold secretB at h
  cases p with
  | nil => cases h
  | cons c r =>
    simp only [Bool.and_eq_true] at h
    have hr := h.2
    unfold nameB at hr
    cases r with
    | nil => cases hr
    | cons a b => simp at hr ⊢; omega

/-- The specification's way of asking whose it is. -/
def specIsB (issuer name key : ByteArray) (f u : Int) (sign : ByteArray) : Bool :=
  decide ((nodeOf sign).1 = 5) && (decide (tmWith 6 [(nodeOf sign).2.headD []] = issuer.data.toList) && ((certO ((nodeOf sign).2.headD []) name key f u).1 && decide ((certO ((nodeOf sign).2.headD []) name key f u).2 = sign.data.toList)))

theorem certO_node {secret : List UInt8} {name key : ByteArray} {f u : Int} (h : (certO secret name key f u).1 = true) : ∃ t, nodeOf (bytesOf (certO secret name key f u).2) = (5, [secret, t]) := by
  unfold certO at h ⊢
  by_cases hp : cpreB name key f u = true
  · rw [if_pos hp] at h ⊢
    exact ⟨_, signO_node h⟩
  · rw [if_neg hp] at h
    cases h

theorem bytes_self (s : ByteArray) : bytesOf s.data.toList = s := by
  apply ByteArray.ext
  simp [bytesOf]

theorem is_both (issuer name key : ByteArray) (f u : Int) (sign : ByteArray) : specIsB issuer name key f u sign = isOfB issuer name key f u sign := by
  rw [Bool.eq_iff_iff]
  unfold specIsB isOfB
  simp only [Bool.and_eq_true, decide_eq_true_eq]
  constructor
  · rintro ⟨h5, hi, ho, hs⟩
    obtain ⟨k, ps, hn⟩ : ∃ k ps, nodeOf sign = (k, ps) := ⟨_, _, rfl⟩
    rw [hn] at h5 hi ho hs
    dsimp only at h5 hi ho hs
    subst h5
    obtain ⟨_, hsh⟩ := node_brk hn (by omega)
    have hsec : secretB (ps.headD []) = true := by
      unfold shapeB at hsh
      simp only [Bool.and_eq_true] at hsh
      have := hsh.2
      rw [show firstOf 5 = true from rfl] at this
      simpa using this
    generalize ps.headD [] = p at *
    have hni : nodeOf issuer = (6, [p]) := by
      unfold nodeOf
      have hsz : issuer.size ≤ 4000 := by
        have h1 : issuer.data.toList.length = issuer.size := by simp
        have h2 := secret_size hsec
        rw [← hi] at h1
        have h3 : (tmWith 6 [p]).length = p.length + 6 := by simp [tmWith, glue, wordOf]
        omega
      rw [if_pos hsz, ← hi]
      exact kind_pub hsec 39
    rw [hni]
    exact ⟨rfl, ho, hs⟩
  · rintro ⟨h6, ho, hs⟩
    obtain ⟨k, ps, hn⟩ : ∃ k ps, nodeOf issuer = (k, ps) := ⟨_, _, rfl⟩
    rw [hn] at h6 ho hs
    dsimp only at h6 ho hs
    subst h6
    obtain ⟨ht, hsh⟩ := node_brk hn (by omega)
    have hlen : ps.length = 1 := by
      unfold shapeB at hsh
      simp only [Bool.and_eq_true, decide_eq_true_eq] at hsh
      have := hsh.1
      rw [show leastOf 6 = 1 from rfl, show mostOf 6 = 1 from rfl] at this
      omega
    match ps, hlen with
    | [p], _ =>
      dsimp only [List.headD] at ho hs
      obtain ⟨t, hnode⟩ := certO_node ho
      rw [hs, bytes_self] at hnode
      rw [hnode]
      exact ⟨rfl, ht.symm, ho, hs⟩
end Go.Proofs.YtjaaplcgphlccaaGreatDoor
