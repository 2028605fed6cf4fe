/- layer 10, numbers: a message read -/
import Derived.Test.YtdmlgheajblcdaaGreatMA
import Derived.WalkKit
namespace Go.Proofs.YtdmlgheajblcdaaGreat
open Go.RowKit
set_option linter.unusedVariables false
set_option linter.unusedSimpArgs false
def rNums : Nat → Rd → Rd × List Int
  | 0, r => (r, [])
  | n + 1, r => ((rNums n (rInt r).1).1, (rInt r).2 :: (rNums n (rInt r).1).2)
def rLot (r : Rd) : Rd × Lt := ((rInt (rText r 12).1).1, ⟨(rText r 12).2, (rInt (rText r 12).1).2⟩)
def rLots : Nat → Rd → Rd × List Lt
  | 0, r => (r, [])
  | n + 1, r => if r.e ≠ 0 then (r, []) else ((rLots n (rLot r).1).1, (rLot r).2 :: (rLots n (rLot r).1).2)
def rCut (r : Rd) : Rd × Ct := ((rInt (rInt (rInt r).1).1).1, ⟨(rInt r).2, (rInt (rInt r).1).2, (rInt (rInt (rInt r).1).1).2⟩)
def rCuts : Nat → Rd → Rd × List Ct
  | 0, r => (r, [])
  | n + 1, r => if r.e ≠ 0 then (r, []) else ((rCuts n (rCut r).1).1, (rCut r).2 :: (rCuts n (rCut r).1).2)
/-- reading goes on: one thing behind another -/
def thn {α β : Type} (a : Rd × α) (f : α → Rd → Rd × β) : Rd × β := f a.2 a.1
def ret {α : Type} (x : α) (r : Rd) : Rd × α := (r, x)
def rBk (r : Rd) : Rd × Bk :=
  thn (rInt r) fun i r => thn (rInt r) fun v r => thn (rInt r) fun t r => thn (rInt r) fun l r => thn (rInt r) fun m r => thn (rInt r) fun s r => thn (rInt r) fun x r => thn (rText r 12) fun c r => thn (rCount r 64) fun n r => thn (rCuts n r) fun cs r => thn (rInts r 64) fun b r => (r, ⟨i, v, c, t, l, m, cs, s, x, b⟩)
def rQu (r : Rd) : Rd × Qu :=
  thn (rInt r) fun i r => thn (rInt r) fun v r => thn (rInt r) fun t r => thn (rInt r) fun l r => thn (rInt r) fun m r => thn (rInt r) fun s r => thn (rInt r) fun x r => thn (rInt r) fun y r => (r, ⟨i, v, t, l, m, s, x, y⟩)
/-- what stands behind the kind, read -/
def rdK (k : Int) (r : Rd) : Rd × Mg :=
  if k = 1 then thn (rInt r) fun a r => thn (rText r 160) fun s r => (r, { Mg.z with k := 1, mem := a, name := s })
  else if k = 2 then thn (rText r 12) fun s r => thn (rInt r) fun a r => thn (rInt r) fun b r => thn (rInt r) fun c r => thn (rText r 12) fun t r => (r, { Mg.z with k := 2, a := ⟨s, a, b, c, t⟩ })
  else if k = 3 then thn (rBk r) fun b r => (r, { Mg.z with k := 3, b := b })
  else if k = 4 then thn (rCount r 64) fun n r => thn (rLots n r) fun l r => (r, { Mg.z with k := 4, ps := l })
  else if k = 5 then thn (rInt r) fun a r => (r, { Mg.z with k := 5, day := a })
  else if k = 6 then thn (rInt r) fun a r => thn (rInt r) fun b r => thn (rText r 12) fun s r => (r, { Mg.z with k := 6, mem := a, t := s, n := b })
  else if k = 7 then thn (rInt r) fun a r => thn (rInt r) fun b r => thn (rText r 12) fun s r => (r, { Mg.z with k := 7, mem := a, t := s, n := b })
  else if k = 8 then thn (rQu r) fun q r => (r, { Mg.z with k := 8, q := q })
  else if k = 9 then thn (rInt r) fun a r => thn (rInt r) fun b r => (r, { Mg.z with k := 9, mem := a, n := b })
  else if k = 10 then thn (rInt r) fun a r => thn (rInt r) fun b r => thn (rInt r) fun c r => (r, { Mg.z with k := 10, mem := a, tr := b, day := c })
  else if k = 11 then thn (rInt r) fun a r => thn (rInt r) fun b r => thn (rLot r) fun o r => thn (rCount r 64) fun n r => thn (rLots n r) fun l r => (r, { Mg.z with k := 11, mem := a, tr := b, out := o, ins := l })
  else if k = 12 then thn (rInt r) fun a r => thn (rInt r) fun b r => thn (rBool r) fun d r => (r, { Mg.z with k := 12, mem := a, day := b, done := d })
  else if k = 13 then thn (rInt r) fun a r => (r, { Mg.z with k := 13, mem := a })
  else if k = 14 then thn (rInt r) fun a r => thn (rInt r) fun b r => (r, { Mg.z with k := 14, mem := a, n := b })
  else if k = 15 then thn (rInt r) fun a r => thn (rInt r) fun b r => thn (rInt r) fun c r => (r, { Mg.z with k := 15, tr := a, day := b, rate := c })
  else (r, { Mg.z with k := k })
/-- P10.5: what bytes say -/
def decN (C : Cks) (s : List UInt8) : Mg × Nat × Nat :=
  if (rInt ⟨s, 0, 0⟩).1.e ≠ 0 then (Mg.z, (rInt ⟨s, 0, 0⟩).1.at_, (rInt ⟨s, 0, 0⟩).1.e)
  else if !inn (rInt ⟨s, 0, 0⟩).2 1 15 then (Mg.z, 0, 17)
  else if (rEnd (rdK (rInt ⟨s, 0, 0⟩).2 (rInt ⟨s, 0, 0⟩).1).1).1.e ≠ 0 then (Mg.z, (rEnd (rdK (rInt ⟨s, 0, 0⟩).2 (rInt ⟨s, 0, 0⟩).1).1).1.at_, (rEnd (rdK (rInt ⟨s, 0, 0⟩).2 (rInt ⟨s, 0, 0⟩).1).1).1.e)
  else if chkM C (rdK (rInt ⟨s, 0, 0⟩).2 (rInt ⟨s, 0, 0⟩).1).2 ≠ 0 then (Mg.z, s.length, chkM C (rdK (rInt ⟨s, 0, 0⟩).2 (rInt ⟨s, 0, 0⟩).1).2)
  else ((rdK (rInt ⟨s, 0, 0⟩).2 (rInt ⟨s, 0, 0⟩).1).2, s.length, 0)
/-- a reader at bytes l, and c behind them -/
structure Ah (r : Rd) (l c : List UInt8) : Prop where
  e : r.e = 0
  le : r.at_ ≤ r.s.length
  is : r.s.drop r.at_ = l ++ c
theorem Ah.split {r : Rd} {l c : List UInt8} (h : Ah r l c) : r = ⟨r.s.take r.at_ ++ l ++ c, (r.s.take r.at_).length, 0⟩ := by
  obtain ⟨s, a, e⟩ := r
  have h1 : e = 0 := h.e
  have h2 : a ≤ s.length := h.le
  have h3 : s.drop a = l ++ c := h.is
  subst h1
  have h4 : s.take a ++ l ++ c = s := by rw [List.append_assoc, ← h3, List.take_append_drop]
  have h5 : (s.take a).length = a := by rw [List.length_take]; omega
  show Rd.mk s a 0 = Rd.mk (s.take a ++ l ++ c) (s.take a).length 0
  rw [h4, h5]
/-- a call reads just the bytes of what it tells -/
def Back {α : Type} (f : Rd → Rd × α) (x : α) (L : List UInt8) : Prop := ∀ (r : Rd) (l c : List UInt8), Ah r (L ++ l) c → (f r).2 = x ∧ Ah (f r).1 l c ∧ (f r).1.s = r.s
theorem back_of {α : Type} {f : Rd → Rd × α} {x : α} {L : List UInt8} (h : ∀ a c, f ⟨a ++ L ++ c, a.length, 0⟩ = (⟨a ++ L ++ c, (a ++ L).length, 0⟩, x)) : Back f x L := by
  intro r l c hr
  have hr2 : Ah r L (l ++ c) := ⟨hr.e, hr.le, by rw [hr.is, List.append_assoc]⟩
  have e := hr2.split
  have hf := h (r.s.take r.at_) (l ++ c)
  rw [← e] at hf
  have hs : r.s = r.s.take r.at_ ++ L ++ (l ++ c) := congrArg Rd.s e
  rw [hf]
  refine ⟨rfl, ⟨rfl, ?_, ?_⟩, hs.symm⟩
  · show (r.s.take r.at_ ++ L).length ≤ (r.s.take r.at_ ++ L ++ (l ++ c)).length
    simp
  · show (r.s.take r.at_ ++ L ++ (l ++ c)).drop (r.s.take r.at_ ++ L).length = _
    rw [List.drop_left]
theorem bInt {n : Int} (h : I64 n) : Back rInt n (intL n) := back_of fun a c => rInt_at a c n h
theorem bText {t : List UInt8} {m : Int} (h : (t.length : Int) ≤ m) (h2 : t.length < 18446744073709551616) : Back (fun r => rText r m) t (textL t) := back_of fun a c => rText_at a c t h2 m h
theorem bBool (b : Bool) : Back rBool b (boolL b) := back_of fun a c => rBool_at a c b
theorem bCount {n : Nat} {m : Int} (h : (n : Int) ≤ m) (h2 : n < 18446744073709551616) : Back (fun r => rCount r m) n (uintL n) := back_of fun a c => rCount_at a c n h2 m h
theorem bInts {l : List Int} {m : Int} (h : (l.length : Int) ≤ m) (h2 : l.length < 18446744073709551616) (h3 : ∀ n ∈ l, I64 n) : Back (fun r => rInts r m) l (intsL l) := back_of fun a c => rInts_at a c l h2 h3 m h
theorem bThn {α β : Type} {f : Rd → Rd × α} {g : α → Rd → Rd × β} {x : α} {y : β} {L M : List UInt8} (hf : Back f x L) (hg : Back (g x) y M) : Back (fun r => thn (f r) g) y (L ++ M) := by
  intro r l c hr
  obtain ⟨h1, h2, h3⟩ := hf r (M ++ l) c (by rw [← List.append_assoc]; exact hr)
  obtain ⟨k1, k2, k3⟩ := hg _ l c h2
  show (g (f r).2 (f r).1).2 = y ∧ Ah (g (f r).2 (f r).1).1 l c ∧ (g (f r).2 (f r).1).1.s = r.s
  rw [h1]
  exact ⟨k1, k2, k3.trans h3⟩
theorem bRet {α : Type} (x : α) : Back (fun r => (r, x)) x [] := fun r l c h => ⟨rfl, by simpa using h, rfl⟩
theorem bEnd {α : Type} {f : Rd → Rd × α} {x : α} {L : List UInt8} (h : Back f x (L ++ [])) : Back f x L := by rw [List.append_nil] at h; exact h
theorem bEq {α : Type} {f g : Rd → Rd × α} {x : α} {L : List UInt8} (h : Back g x L) (e : ∀ r, f r = g r) : Back f x L := by
  intro r l c hr
  rw [e]
  exact h r l c hr
theorem bLot {l : Lt} (h : l.i.length ≤ 12) (hq : I64 l.q) : Back rLot l (lotL l) :=
  bEq (g := fun r => thn (rText r 12) fun s r => thn (rInt r) fun n r => (r, (⟨s, n⟩ : Lt))) (bThn (bText (by omega) (by omega)) (bEnd (bThn (bInt hq) (bRet _)))) fun _ => rfl
theorem bCut {l : Ct} (h : I64 l.d ∧ I64 l.r ∧ I64 l.c) : Back rCut l (cutL l) :=
  bEq (g := fun r => thn (rInt r) fun a r => thn (rInt r) fun b r => thn (rInt r) fun c r => (r, (⟨a, b, c⟩ : Ct))) (bThn (bInt h.1) (bThn (bInt h.2.1) (bEnd (bThn (bInt h.2.2) (bRet _))))) fun _ => rfl
theorem bLots (l : List Lt) (h : ∀ x ∈ l, x.i.length ≤ 12 ∧ I64 x.q) : Back (rLots l.length) l (flatM lotL l) := by
  induction l with
  | nil => exact bRet []
  | cons x l ih =>
    have hx := h x (List.mem_cons_self ..)
    intro r m c hr
    have e : rLots (x :: l).length r = thn (rLot r) fun o r => thn (rLots l.length r) fun k r => (r, o :: k) := by
      show (if r.e ≠ 0 then _ else _) = _
      rw [if_neg (by simpa using hr.e)]
      rfl
    rw [e]
    exact bThn (bLot hx.1 hx.2) (bEnd (bThn (ih fun y hy => h y (List.mem_cons_of_mem _ hy)) (bRet _))) r m c hr
theorem bCuts (l : List Ct) (h : ∀ x ∈ l, I64 x.d ∧ I64 x.r ∧ I64 x.c) : Back (rCuts l.length) l (flatM cutL l) := by
  induction l with
  | nil => exact bRet []
  | cons x l ih =>
    intro r m c hr
    have e : rCuts (x :: l).length r = thn (rCut r) fun o r => thn (rCuts l.length r) fun k r => (r, o :: k) := by
      show (if r.e ≠ 0 then _ else _) = _
      rw [if_neg (by simpa using hr.e)]
      rfl
    rw [e]
    exact bThn (bCut (h x (List.mem_cons_self ..))) (bEnd (bThn (ih fun y hy => h y (List.mem_cons_of_mem _ hy)) (bRet _))) r m c hr
end Go.Proofs.YtdmlgheajblcdaaGreat
