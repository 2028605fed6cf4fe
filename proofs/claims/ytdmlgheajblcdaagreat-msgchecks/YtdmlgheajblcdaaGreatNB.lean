/- layer 9, numbers: what is written of items, and a reader -/
import Derived.Test.YtdmlgheajblcdaaGreatNA
import Derived.WalkKit
namespace Go.Proofs.YtdmlgheajblcdaaGreat
open Go.RowKit
set_option linter.unusedVariables false
set_option linter.unusedSimpArgs false
/-- a number with a sign as one without -/
def fo (n : Int) : Nat := if n < 0 then (-2 * n - 1).toNat else (2 * n).toNat
def un (u : Nat) : Int := if u % 2 = 1 then -1 - ((u / 2 : Nat) : Int) else ((u / 2 : Nat) : Int)
def I64 (n : Int) : Prop := -9223372036854775808 ≤ n ∧ n ≤ 9223372036854775807
theorem un_fo (n : Int) : un (fo n) = n := by
  unfold un fo
  split <;> split <;> omega
theorem fo_un (u : Nat) : fo (un u) = u := by
  unfold un fo
  split <;> split <;> omega
theorem fo_lt {n : Int} (h : I64 n) : fo n < 18446744073709551616 := by
  unfold fo
  have := h.1; have := h.2
  split <;> omega
theorem un_in {u : Nat} (h : u < 18446744073709551616) : I64 (un u) := by
  unfold un I64
  split <;> omega
def intL (n : Int) : List UInt8 := uintL (fo n)
def textL (t : List UInt8) : List UInt8 := uintL t.length ++ t
def boolL (b : Bool) : List UInt8 := [if b then 1 else 0]
def flatI : List Int → List UInt8
  | [] => []
  | n :: l => intL n ++ flatI l
def intsL (l : List Int) : List UInt8 := uintL l.length ++ flatI l
/-- a reader: its text, where it is, its fault -/
structure Rd where
  s : List UInt8
  at_ : Nat
  e : Nat
def Rd.fl (r : Rd) (e : Nat) : Rd := if r.e = 0 then { r with e := e } else r
def rUint (r : Rd) : Rd × Nat :=
  if r.e ≠ 0 then (r, 0) else if (rdU (r.s.drop r.at_)).1 = 0 then ({ r with at_ := r.at_ + (rdU (r.s.drop r.at_)).2.2 }, (rdU (r.s.drop r.at_)).2.1) else ({ r with e := (rdU (r.s.drop r.at_)).1 }, 0)
def rInt (r : Rd) : Rd × Int := ((rUint r).1, un (rUint r).2)
/-- a length, at most 'most' -/
def rCount (r : Rd) (most : Int) : Rd × Nat :=
  if (rUint r).1.e ≠ 0 then ((rUint r).1, 0) else if (((rUint r).2 : Nat) : Int) > most then (r.fl 2, 0) else rUint r
def rText (r : Rd) (most : Int) : Rd × List UInt8 :=
  if (rCount r most).1.e ≠ 0 then ((rCount r most).1, []) else if r.s.length < (rCount r most).1.at_ + (rCount r most).2 then (r.fl 14, []) else
    ({ r with at_ := (rCount r most).1.at_ + (rCount r most).2 }, (r.s.drop (rCount r most).1.at_).take (rCount r most).2)
def rBool (r : Rd) : Rd × Bool :=
  if r.e ≠ 0 then (r, false) else match r.s[r.at_]? with
    | none => ({ r with e := 14 }, false)
    | some c => if 1 < c.toNat then ({ r with e := 15 }, false) else ({ r with at_ := r.at_ + 1 }, c.toNat == 1)
def rIs : Nat → Rd → Rd × List Int
  | 0, r => (r, [])
  | n + 1, r => if r.e ≠ 0 then (r, []) else ((rIs n (rInt r).1).1, (rInt r).2 :: (rIs n (rInt r).1).2)
def rInts (r : Rd) (most : Int) : Rd × List Int :=
  if (rIs (rCount r most).2 (rCount r most).1).1.e ≠ 0 then ((rIs (rCount r most).2 (rCount r most).1).1, []) else rIs (rCount r most).2 (rCount r most).1
def rEnd (r : Rd) : Rd × Bool := ((if r.at_ < r.s.length then r.fl 16 else r), (if r.at_ < r.s.length then r.fl 16 else r).e == 0)
/-- behind a fault nothing changes -/
theorem rUint_bad {r : Rd} (h : r.e ≠ 0) : rUint r = (r, 0) := by unfold rUint; rw [if_pos h]
theorem rInt_bad {r : Rd} (h : r.e ≠ 0) : rInt r = (r, 0) := by unfold rInt; rw [rUint_bad h]; show (r, un 0) = _; simp [un]
theorem rCount_bad {r : Rd} (h : r.e ≠ 0) (m : Int) : rCount r m = (r, 0) := by unfold rCount; rw [rUint_bad h, if_pos h]
theorem rText_bad {r : Rd} (h : r.e ≠ 0) (m : Int) : rText r m = (r, []) := by unfold rText; rw [rCount_bad h, if_pos h]
theorem rBool_bad {r : Rd} (h : r.e ≠ 0) : rBool r = (r, false) := by unfold rBool; rw [if_pos h]
theorem rInts_bad {r : Rd} (h : r.e ≠ 0) (m : Int) : rInts r m = (r, []) := by
  unfold rInts; rw [rCount_bad h]
  show (if (rIs 0 r).1.e ≠ 0 then ((rIs 0 r).1, []) else rIs 0 r) = _
  rw [if_pos (show (rIs 0 r).1.e ≠ 0 from h)]
  rfl
theorem fl_bad {r : Rd} (h : r.e ≠ 0) (e : Nat) : r.fl e = r := by unfold Rd.fl; rw [if_neg h]
theorem rEnd_bad {r : Rd} (h : r.e ≠ 0) : rEnd r = (r, false) := by
  unfold rEnd
  rw [fl_bad h, ite_self]
  simp [h]
/-- a reader at a place with bytes behind it -/
theorem drop_mid (a b c : List UInt8) : (a ++ b ++ c).drop a.length = b ++ c := by rw [List.append_assoc, List.drop_left]
theorem rUint_at (a c : List UInt8) (n : Nat) (h : n < 18446744073709551616) : rUint ⟨a ++ uintL n ++ c, a.length, 0⟩ = (⟨a ++ uintL n ++ c, (a ++ uintL n).length, 0⟩, n) := by
  unfold rUint
  rw [if_neg (by simp)]
  show (if (rdU ((a ++ uintL n ++ c).drop a.length)).1 = 0 then _ else _) = _
  rw [drop_mid, rdU_uint n h, if_pos rfl, List.length_append]
theorem rInt_at (a c : List UInt8) (n : Int) (h : I64 n) : rInt ⟨a ++ intL n ++ c, a.length, 0⟩ = (⟨a ++ intL n ++ c, (a ++ intL n).length, 0⟩, n) := by
  unfold rInt intL
  rw [rUint_at a c (fo n) (fo_lt h), un_fo]
theorem rCount_at (a c : List UInt8) (n : Nat) (h : n < 18446744073709551616) (m : Int) (hm : (n : Int) ≤ m) : rCount ⟨a ++ uintL n ++ c, a.length, 0⟩ m = (⟨a ++ uintL n ++ c, (a ++ uintL n).length, 0⟩, n) := by
  unfold rCount
  rw [rUint_at a c n h, if_neg (by simp), if_neg (by simp only; omega)]
theorem rText_at (a c t : List UInt8) (h : t.length < 18446744073709551616) (m : Int) (hm : (t.length : Int) ≤ m) : rText ⟨a ++ textL t ++ c, a.length, 0⟩ m = (⟨a ++ textL t ++ c, (a ++ textL t).length, 0⟩, t) := by
  have e : a ++ textL t ++ c = a ++ uintL t.length ++ (t ++ c) := by simp [textL]
  unfold rText
  rw [e, rCount_at a (t ++ c) t.length h m hm, if_neg (by simp), if_neg (by simp only [List.length_append]; omega)]
  show (Rd.mk _ _ _, ((a ++ uintL t.length ++ (t ++ c)).drop (a ++ uintL t.length).length).take t.length) = _
  rw [List.drop_left, List.take_left]
  simp [textL, Nat.add_assoc]
theorem rBool_at (a c : List UInt8) (b : Bool) : rBool ⟨a ++ boolL b ++ c, a.length, 0⟩ = (⟨a ++ boolL b ++ c, (a ++ boolL b).length, 0⟩, b) := by
  unfold rBool
  rw [if_neg (by simp)]
  show (match (a ++ boolL b ++ c)[a.length]? with | none => _ | some c => _) = _
  rw [List.append_assoc, List.getElem?_append_right (Nat.le_refl _), Nat.sub_self]
  cases b <;> simp [boolL]
theorem rIs_at (l : List Int) : ∀ (a c : List UInt8), (∀ n ∈ l, I64 n) → rIs l.length ⟨a ++ flatI l ++ c, a.length, 0⟩ = (⟨a ++ flatI l ++ c, (a ++ flatI l).length, 0⟩, l) := by
  induction l with
  | nil => intro a c _; simp [rIs, flatI]
  | cons n l ih =>
    intro a c h
    have e : a ++ flatI (n :: l) ++ c = a ++ intL n ++ (flatI l ++ c) := by simp [flatI]
    have e2 : a ++ intL n ++ (flatI l ++ c) = (a ++ intL n) ++ flatI l ++ c := by simp
    have e3 : (a ++ flatI (n :: l)).length = ((a ++ intL n) ++ flatI l).length := by simp [flatI, Nat.add_assoc]
    show (if (0 : Nat) ≠ 0 then _ else _) = _
    rw [if_neg (by simp), e, rInt_at a _ n (h n (List.mem_cons_self ..)), e2, e3]
    show ((rIs l.length _).1, n :: (rIs l.length _).2) = _
    rw [ih (a ++ intL n) c (fun x hx => h x (List.mem_cons_of_mem _ hx))]
theorem rInts_at (a c : List UInt8) (l : List Int) (hl : l.length < 18446744073709551616) (h : ∀ n ∈ l, I64 n) (m : Int) (hm : (l.length : Int) ≤ m) : rInts ⟨a ++ intsL l ++ c, a.length, 0⟩ m = (⟨a ++ intsL l ++ c, (a ++ intsL l).length, 0⟩, l) := by
  have e : a ++ intsL l ++ c = a ++ uintL l.length ++ (flatI l ++ c) := by simp [intsL]
  have e2 : a ++ uintL l.length ++ (flatI l ++ c) = (a ++ uintL l.length) ++ flatI l ++ c := by simp
  have e3 : (a ++ intsL l).length = ((a ++ uintL l.length) ++ flatI l).length := by simp [intsL, Nat.add_assoc]
  unfold rInts
  rw [e, rCount_at a _ l.length hl m hm, e2, e3]
  show (if (rIs l.length ⟨_, (a ++ uintL l.length).length, 0⟩).1.e ≠ 0 then _ else rIs l.length ⟨_, (a ++ uintL l.length).length, 0⟩) = _
  rw [rIs_at l (a ++ uintL l.length) c h, if_neg (by simp)]
/-- lengths -/
theorem uint_len {n : Nat} (h : n < 18446744073709551616) : 1 ≤ (uintL n).length ∧ (uintL n).length ≤ 10 := by
  have h1 := rdU_uint n h []
  have := rdU_ok h1
  exact ⟨this.2.2.1, this.2.2.2.1⟩
theorem flatI_len (l : List Int) (h : ∀ n ∈ l, I64 n) : (flatI l).length ≤ 10 * l.length := by
  induction l with
  | nil => simp [flatI]
  | cons n l ih =>
    have h1 := (uint_len (fo_lt (h n (List.mem_cons_self ..)))).2
    have h2 := ih (fun x hx => h x (List.mem_cons_of_mem _ hx))
    simp only [flatI, intL, List.length_append, List.length_cons]
    omega
/-- a reader's place stays inside its text, and grows -/
def Rd.Ok (r : Rd) : Prop := r.at_ ≤ r.s.length
theorem rUint_ok {r : Rd} (h : r.Ok) : (rUint r).1.Ok ∧ (rUint r).1.s = r.s ∧ r.at_ ≤ (rUint r).1.at_ ∧ (rUint r).2 < 18446744073709551616 := by
  unfold rUint
  split
  · exact ⟨h, rfl, Nat.le_refl _, by simp⟩
  · split
    · next h1 h2 =>
      have hk := rdU_ok (s := r.s.drop r.at_) (m := (rdU (r.s.drop r.at_)).2.1) (j := (rdU (r.s.drop r.at_)).2.2) (by rw [← h2])
      rw [List.length_drop] at hk
      refine ⟨?_, rfl, Nat.le_add_right .., hk.1⟩
      show r.at_ + _ ≤ r.s.length
      have : r.at_ ≤ r.s.length := h
      omega
    · exact ⟨h, rfl, Nat.le_refl _, by simp⟩
theorem rInt_ok {r : Rd} (h : r.Ok) : (rInt r).1.Ok ∧ (rInt r).1.s = r.s ∧ I64 (rInt r).2 := ⟨(rUint_ok h).1, (rUint_ok h).2.1, un_in (rUint_ok h).2.2.2⟩
theorem fl_ok {r : Rd} (h : r.Ok) (e : Nat) : (r.fl e).Ok ∧ (r.fl e).s = r.s := by
  unfold Rd.fl
  split
  · exact ⟨h, rfl⟩
  · exact ⟨h, rfl⟩
theorem rCount_ok {r : Rd} (h : r.Ok) (m : Int) : (rCount r m).1.Ok ∧ (rCount r m).1.s = r.s := by
  unfold rCount
  split
  · exact ⟨(rUint_ok h).1, (rUint_ok h).2.1⟩
  · split
    · exact fl_ok h 2
    · exact ⟨(rUint_ok h).1, (rUint_ok h).2.1⟩
theorem rIs_ok (n : Nat) : ∀ {r : Rd}, r.Ok → (rIs n r).1.Ok ∧ (rIs n r).1.s = r.s := by
  induction n with
  | zero => intro r h; exact ⟨h, rfl⟩
  | succ n ih =>
    intro r h
    unfold rIs
    split
    · exact ⟨h, rfl⟩
    · have h1 := rInt_ok h
      have h2 := ih h1.1
      exact ⟨h2.1, h2.2.trans h1.2.1⟩
theorem rText_ok {r : Rd} (h : r.Ok) (m : Int) : (rText r m).1.Ok ∧ (rText r m).1.s = r.s := by
  unfold rText
  split
  · exact rCount_ok h m
  · split
    · exact fl_ok h 14
    · next h1 h2 => exact ⟨(by show (rCount r m).1.at_ + (rCount r m).2 ≤ r.s.length; omega), rfl⟩
theorem rBool_ok {r : Rd} (h : r.Ok) : (rBool r).1.Ok ∧ (rBool r).1.s = r.s := by
  unfold rBool
  split
  · exact ⟨h, rfl⟩
  · split
    · exact ⟨h, rfl⟩
    · next c hc =>
      split
      · exact ⟨h, rfl⟩
      · refine ⟨?_, rfl⟩
        have := (List.getElem?_eq_some_iff.mp hc).1
        exact this
theorem rInts_ok {r : Rd} (h : r.Ok) (m : Int) : (rInts r m).1.Ok ∧ (rInts r m).1.s = r.s := by
  have h1 := rCount_ok h m
  have h2 := rIs_ok (rCount r m).2 h1.1
  unfold rInts
  split
  · exact ⟨h2.1, h2.2.trans h1.2⟩
  · exact ⟨h2.1, h2.2.trans h1.2⟩
theorem rEnd_ok {r : Rd} (h : r.Ok) : (rEnd r).1.Ok ∧ (rEnd r).1.s = r.s := by
  unfold rEnd
  show (if _ then _ else _ : Rd).Ok ∧ (if _ then _ else _ : Rd).s = _
  split
  · exact fl_ok h 16
  · exact ⟨h, rfl⟩
/-- how many numbers a reader tells: no more than bytes are left, and one -/
theorem rIs_len (n : Nat) : ∀ {r : Rd}, r.Ok → (rIs n r).2.length ≤ r.s.length - r.at_ + 1 := by
  induction n with
  | zero => intro r _; simp [rIs]
  | succ n ih =>
    intro r h
    unfold rIs
    split
    · simp
    · next he =>
      have h0 : r.e = 0 := Classical.byContradiction he
      have h1 := rInt_ok h
      have h2 := ih h1.1
      show (rIs n (rInt r).1).2.length + 1 ≤ _
      by_cases hr : (rdU (r.s.drop r.at_)).1 = 0
      · have hk := rdU_ok (s := r.s.drop r.at_) (m := (rdU (r.s.drop r.at_)).2.1) (j := (rdU (r.s.drop r.at_)).2.2) (by rw [← hr])
        rw [List.length_drop] at hk
        have e : (rInt r).1.at_ = r.at_ + (rdU (r.s.drop r.at_)).2.2 := by
          show (rUint r).1.at_ = _
          unfold rUint
          rw [if_neg he, if_pos hr]
        rw [h1.2.1, e] at h2
        omega
      · have e : (rInt r).1.e ≠ 0 := by
          show (rUint r).1.e ≠ 0
          unfold rUint
          rw [if_neg he, if_neg hr]
          exact hr
        have : (rIs n (rInt r).1).2 = [] := by
          cases n with
          | zero => rfl
          | succ n => unfold rIs; rw [if_pos e]
        rw [this]
        simp
/-- one call of a reader, by its kind: 0 Uint, 1 Int, 2 Text, 3 Bool, 4 Ints, 5 Count, 6 End, else Fail(17): what it is then -/
def rDo (k : Nat) (m : Int) (r : Rd) : Rd := match k with
  | 0 => (rUint r).1
  | 1 => (rInt r).1
  | 2 => (rText r m).1
  | 3 => (rBool r).1
  | 4 => (rInts r m).1
  | 5 => (rCount r m).1
  | 6 => (rEnd r).1
  | _ => r.fl 17
theorem rDo_ok (k : Nat) (m : Int) {r : Rd} (h : r.Ok) : (rDo k m r).Ok ∧ (rDo k m r).s = r.s := by
  unfold rDo
  split
  · exact ⟨(rUint_ok h).1, (rUint_ok h).2.1⟩
  · exact ⟨(rInt_ok h).1, (rInt_ok h).2.1⟩
  · exact rText_ok h m
  · exact rBool_ok h
  · exact rInts_ok h m
  · exact rCount_ok h m
  · exact rEnd_ok h
  · exact fl_ok h 17
theorem rDo_bad (k : Nat) (m : Int) {r : Rd} (h : r.e ≠ 0) : rDo k m r = r := by
  unfold rDo
  split
  · rw [rUint_bad h]
  · rw [rInt_bad h]
  · rw [rText_bad h]
  · rw [rBool_bad h]
  · rw [rInts_bad h]
  · rw [rCount_bad h]
  · rw [rEnd_bad h]
  · rw [fl_bad h]
end Go.Proofs.YtdmlgheajblcdaaGreat
