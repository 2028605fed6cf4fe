/- layer 10, numbers: messages, what is wrong with them, their bytes -/
import Derived.Test.YtdmlgheajblcdaaGreatK01
import Derived.WalkKit
import Derived.Test.YtdmlgheajblcdaaGreatK03
import Derived.ProofKit
import Derived.Handy
import Derived.WalkLawsBesides
import Derived.WalkSpells
import Derived.BigQuiet
import Derived.BigCall
import Derived.Deep.QuietTactic
import Derived.Deep.Light
import Derived.Deep.OwnRows
import Derived.Laws.AppendOwnNone
import Derived.Laws.Strings3
import Derived.Laws.RangeAny
import Derived.Deep.RegionWith
import Derived.Lib.BitFns
import Derived.Lib.Walk
import Derived.Lib.Strings
import Derived.Lib.OthersKept
import Derived.Deep.CutBlock
import Derived.Deep.DeepCutAuto
import Derived.Deep.LoopGhost
import Derived.Deep.RegionHeld3
import Derived.Lib.SmallJoins
import Derived.Maps.AppendAt
import Derived.Laws.IdiomStrings
import Derived.Lib.AppendZeros
import Derived.Deep.WholeRow
import Derived.Laws.BitsAllLaws
import Derived.Lib.ConvBytes
import Derived.Deep.RegionLaw
import Derived.Test.YtdmlgheajblcdaaGreatK05
import Derived.Test.YtdmlgheajblcdaaGreatK07
namespace Go.Proofs.YtdmlgheajblcdaaGreat
open Go.RowKit
set_option linter.unusedVariables false
set_option linter.unusedSimpArgs false
structure Lt where
  i : List UInt8
  q : Int
structure Ct where
  d : Int
  r : Int
  c : Int
structure Ast where
  i : List UInt8
  iss : Int
  rat : Int
  mat : Int
  cur : List UInt8
structure Bk where
  id : Int
  ver : Int
  cur : List UInt8
  rat : Int
  least : Int
  most : Int
  cuts : List Ct
  iss : Int
  ass : Int
  bar : List Int
structure Qu where
  id : Int
  mem : Int
  side : Int
  bas : Int
  am : Int
  rate : Int
  st : Int
  en : Int
structure Mg where
  k : Int
  mem : Int
  name : List UInt8
  a : Ast
  b : Bk
  ps : List Lt
  day : Int
  t : List UInt8
  n : Int
  q : Qu
  out : Lt
  ins : List Lt
  tr : Int
  done : Bool
  rate : Int
def Lt.z : Lt := ⟨[], 0⟩
def Ast.z : Ast := ⟨[], 0, 0, 0, []⟩
def Bk.z : Bk := ⟨0, 0, [], 0, 0, 0, [], 0, 0, []⟩
def Qu.z : Qu := ⟨0, 0, 0, 0, 0, 0, 0, 0⟩
def Mg.z : Mg := ⟨0, 0, [], Ast.z, Bk.z, [], 0, [], 0, Qu.z, Lt.z, [], 0, false, 0⟩
/-- the checks of the layers below: a name's error, a number's, a currency, a security's error, a day, the order of texts -/
structure Cks where
  nm : List UInt8 → Nat
  is : List UInt8 → Nat
  cu : List UInt8 → Bool
  ast : Ast → Nat
  gd : Int → Bool
  le : List UInt8 → List UInt8 → Bool
/-- what is right is short -/
structure Cks.Ok (C : Cks) : Prop where
  nm : ∀ s, C.nm s = 0 → s.length ≤ 160
  is : ∀ s, C.is s = 0 → s.length ≤ 12
  cu : ∀ s, C.cu s = true → s.length ≤ 12
  ast : ∀ a, C.ast a = 0 → a.i.length ≤ 12 ∧ a.cur.length ≤ 12
def inn (n a b : Int) : Bool := decide (a ≤ n) && decide (n ≤ b)
def amt (n : Int) : Bool := inn n 1 1125899906842624
def mbr (n : Int) : Bool := inn n 1 32
def sgn (n : Int) : Bool := amt n || (decide (n < 0) && decide (-1125899906842624 ≤ n))
def dayE (C : Cks) (n : Int) : Nat := if C.gd n then 0 else 10
def lotE (C : Cks) (l : Lt) : Nat := if amt l.q then C.is l.i else 1
def lotsE (C : Cks) : List Lt → Nat
  | [] => 0
  | l :: r => if lotE C l = 0 then lotsE C r else lotE C l
def cutB (c : Ct) : Bool := inn c.d 0 200000 && (inn c.r 0 20 && inn c.c 0 999999)
def baGo (p : Option Int) (n : Int) : Bool := match p with
  | none => true
  | some m => decide (m < n)
/-- above the one ahead, from p on (none: the first one) -/
def barB : Option Int → List Int → Bool
  | _, [] => true
  | p, n :: l => inn n 0 9999 && (baGo p n && barB (some n) l)
def bkE (C : Cks) (b : Bk) : Nat :=
  if !(inn b.id 1 64 && (amt b.ver && (inn b.rat 0 20 && (inn b.iss 0 1000000 && (inn b.ass 0 1000000 && (decide (1 ≤ b.cuts.length) && (decide (b.cuts.length ≤ 64) && decide (b.bar.length ≤ 64)))))))) then 1
  else if !(decide (0 ≤ b.least) && inn b.most b.least 200000) then 10
  else if !C.cu b.cur then 11
  else if !(b.cuts.all cutB) then 1
  else if !(barB none b.bar) then 1 else 0
def quE (C : Cks) (q : Qu) : Nat :=
  if !(amt q.id && (inn q.side 1 2 && (inn q.bas 1 64 && (amt q.am && inn q.rate (-1000000) 1000000)))) then 1
  else if !(C.gd q.st && (decide (q.en = 0) || (C.gd q.en && inn (q.en - q.st) 1 3660))) then 10 else 0
def prGo (C : Cks) (p : Option (List UInt8)) (i : List UInt8) : Bool := match p with
  | none => true
  | some m => !C.le i m
/-- prices, from the one ahead on -/
def prsE (C : Cks) : Option (List UInt8) → List Lt → Nat
  | _, [] => 0
  | p, l :: r => if C.is l.i ≠ 0 then C.is l.i else if !(inn l.q 1 4294967296 && prGo C p l.i) then 31 else prsE C (some l.i) r
def prE (C : Cks) (l : List Lt) : Nat := if l.length = 0 ∨ 64 < l.length then 2 else prsE C none l
/-- P10.3 -/
def chkM (C : Cks) (m : Mg) : Nat :=
  if m.k = 1 then (if mbr m.mem then C.nm m.name else 1)
  else if m.k = 2 then C.ast m.a
  else if m.k = 3 then bkE C m.b
  else if m.k = 4 then prE C m.ps
  else if m.k = 5 then dayE C m.day
  else if m.k = 6 then (if C.cu m.t then (if mbr m.mem && sgn m.n then 0 else 1) else 11)
  else if m.k = 7 then (if mbr m.mem && sgn m.n then C.is m.t else 1)
  else if m.k = 8 then (if mbr m.q.mem then quE C m.q else 1)
  else if m.k = 9 then (if mbr m.mem && amt m.n then 0 else 1)
  else if m.k = 10 then (if mbr m.mem && amt m.tr then dayE C m.day else 1)
  else if m.k = 11 then (if mbr m.mem && (amt m.tr && decide (m.ins.length ≤ 64)) then lotsE C (m.out :: m.ins) else 1)
  else if m.k = 12 then (if mbr m.mem then dayE C m.day else 1)
  else if m.k = 13 then (if mbr m.mem then 0 else 1)
  else if m.k = 14 then (if mbr m.mem && inn m.n 0 1125899906842624 then 0 else 1)
  else if m.k = 15 then (if amt m.tr && inn m.rate (-1000000) 1000000 then dayE C m.day else 1)
  else 17
def lotL (l : Lt) : List UInt8 := textL l.i ++ intL l.q
def cutL (c : Ct) : List UInt8 := intL c.d ++ (intL c.r ++ intL c.c)
def flatM {α : Type} (f : α → List UInt8) : List α → List UInt8
  | [] => []
  | x :: l => f x ++ flatM f l
def bkL (b : Bk) : List UInt8 := intL b.id ++ (intL b.ver ++ (intL b.rat ++ (intL b.least ++ (intL b.most ++ (intL b.iss ++ (intL b.ass ++ (textL b.cur ++ (uintL b.cuts.length ++ (flatM cutL b.cuts ++ intsL b.bar)))))))))
def quL (q : Qu) : List UInt8 := intL q.id ++ (intL q.mem ++ (intL q.side ++ (intL q.bas ++ (intL q.am ++ (intL q.rate ++ (intL q.st ++ intL q.en))))))
/-- what stands behind the kind -/
def bodL (m : Mg) : List UInt8 :=
  if m.k = 1 then intL m.mem ++ textL m.name
  else if m.k = 2 then textL m.a.i ++ (intL m.a.iss ++ (intL m.a.rat ++ (intL m.a.mat ++ textL m.a.cur)))
  else if m.k = 3 then bkL m.b
  else if m.k = 4 then uintL m.ps.length ++ flatM lotL m.ps
  else if m.k = 5 then intL m.day
  else if m.k = 6 then intL m.mem ++ (intL m.n ++ textL m.t)
  else if m.k = 7 then intL m.mem ++ (intL m.n ++ textL m.t)
  else if m.k = 8 then quL m.q
  else if m.k = 9 then intL m.mem ++ intL m.n
  else if m.k = 10 then intL m.mem ++ (intL m.tr ++ intL m.day)
  else if m.k = 11 then intL m.mem ++ (intL m.tr ++ (lotL m.out ++ (uintL m.ins.length ++ flatM lotL m.ins)))
  else if m.k = 12 then intL m.mem ++ (intL m.day ++ boolL m.done)
  else if m.k = 13 then intL m.mem
  else if m.k = 14 then intL m.mem ++ intL m.n
  else if m.k = 15 then intL m.tr ++ (intL m.day ++ intL m.rate)
  else []
/-- P10.4 -/
def encL (m : Mg) : List UInt8 := intL m.k ++ bodL m
/-- numbers that a machine holds -/
structure Mg.Wf (m : Mg) : Prop where
  k : I64 m.k
  mem : I64 m.mem
  a : I64 m.a.iss ∧ I64 m.a.rat ∧ I64 m.a.mat
  b : I64 m.b.id ∧ I64 m.b.ver ∧ I64 m.b.rat ∧ I64 m.b.least ∧ I64 m.b.most ∧ I64 m.b.iss ∧ I64 m.b.ass ∧ (∀ c ∈ m.b.cuts, I64 c.d ∧ I64 c.r ∧ I64 c.c) ∧ ∀ n ∈ m.b.bar, I64 n
  ps : ∀ l ∈ m.ps, I64 l.q
  day : I64 m.day
  n : I64 m.n
  q : I64 m.q.id ∧ I64 m.q.mem ∧ I64 m.q.side ∧ I64 m.q.bas ∧ I64 m.q.am ∧ I64 m.q.rate ∧ I64 m.q.st ∧ I64 m.q.en
  out : I64 m.out.q
  ins : ∀ l ∈ m.ins, I64 l.q
  tr : I64 m.tr
  rate : I64 m.rate
/-- what its kind has -/
def plainM (m : Mg) : Mg :=
  if m.k = 1 then { Mg.z with k := 1, mem := m.mem, name := m.name }
  else if m.k = 2 then { Mg.z with k := 2, a := m.a }
  else if m.k = 3 then { Mg.z with k := 3, b := m.b }
  else if m.k = 4 then { Mg.z with k := 4, ps := m.ps }
  else if m.k = 5 then { Mg.z with k := 5, day := m.day }
  else if m.k = 6 then { Mg.z with k := 6, mem := m.mem, t := m.t, n := m.n }
  else if m.k = 7 then { Mg.z with k := 7, mem := m.mem, t := m.t, n := m.n }
  else if m.k = 8 then { Mg.z with k := 8, q := m.q }
  else if m.k = 9 then { Mg.z with k := 9, mem := m.mem, n := m.n }
  else if m.k = 10 then { Mg.z with k := 10, mem := m.mem, tr := m.tr, day := m.day }
  else if m.k = 11 then { Mg.z with k := 11, mem := m.mem, tr := m.tr, out := m.out, ins := m.ins }
  else if m.k = 12 then { Mg.z with k := 12, mem := m.mem, day := m.day, done := m.done }
  else if m.k = 13 then { Mg.z with k := 13, mem := m.mem }
  else if m.k = 14 then { Mg.z with k := 14, mem := m.mem, n := m.n }
  else if m.k = 15 then { Mg.z with k := 15, tr := m.tr, day := m.day, rate := m.rate }
  else { Mg.z with k := m.k }
end Go.Proofs.YtdmlgheajblcdaaGreat

/- layer 10, numbers: a message read -/
namespace Go.Proofs.YtdmlgheajblcdaaGreat
open Go.RowKit
set_option linter.unusedVariables false
set_option linter.unusedSimpArgs false
def rNums : Nat → Rd → Rd × List Int
  | 0, r => (r, [])
  | n + 1, r => ((rNums n (rInt r).1).1, (rInt r).2 :: (rNums n (rInt r).1).2)
def rLot (r : Rd) : Rd × Lt := ((rInt (rText r 12).1).1, ⟨(rText r 12).2, (rInt (rText r 12).1).2⟩)
def rLots : Nat → Rd → Rd × List Lt
  | 0, r => (r, [])
  | n + 1, r => if r.e ≠ 0 then (r, []) else ((rLots n (rLot r).1).1, (rLot r).2 :: (rLots n (rLot r).1).2)
def rCut (r : Rd) : Rd × Ct := ((rInt (rInt (rInt r).1).1).1, ⟨(rInt r).2, (rInt (rInt r).1).2, (rInt (rInt (rInt r).1).1).2⟩)
def rCuts : Nat → Rd → Rd × List Ct
  | 0, r => (r, [])
  | n + 1, r => if r.e ≠ 0 then (r, []) else ((rCuts n (rCut r).1).1, (rCut r).2 :: (rCuts n (rCut r).1).2)
/-- reading goes on: one thing behind another -/
def thn {α β : Type} (a : Rd × α) (f : α → Rd → Rd × β) : Rd × β := f a.2 a.1
def ret {α : Type} (x : α) (r : Rd) : Rd × α := (r, x)
def rBk (r : Rd) : Rd × Bk :=
  thn (rInt r) fun i r => thn (rInt r) fun v r => thn (rInt r) fun t r => thn (rInt r) fun l r => thn (rInt r) fun m r => thn (rInt r) fun s r => thn (rInt r) fun x r => thn (rText r 12) fun c r => thn (rCount r 64) fun n r => thn (rCuts n r) fun cs r => thn (rInts r 64) fun b r => (r, ⟨i, v, c, t, l, m, cs, s, x, b⟩)
def rQu (r : Rd) : Rd × Qu :=
  thn (rInt r) fun i r => thn (rInt r) fun v r => thn (rInt r) fun t r => thn (rInt r) fun l r => thn (rInt r) fun m r => thn (rInt r) fun s r => thn (rInt r) fun x r => thn (rInt r) fun y r => (r, ⟨i, v, t, l, m, s, x, y⟩)
/-- what stands behind the kind, read -/
def rdK (k : Int) (r : Rd) : Rd × Mg :=
  if k = 1 then thn (rInt r) fun a r => thn (rText r 160) fun s r => (r, { Mg.z with k := 1, mem := a, name := s })
  else if k = 2 then thn (rText r 12) fun s r => thn (rInt r) fun a r => thn (rInt r) fun b r => thn (rInt r) fun c r => thn (rText r 12) fun t r => (r, { Mg.z with k := 2, a := ⟨s, a, b, c, t⟩ })
  else if k = 3 then thn (rBk r) fun b r => (r, { Mg.z with k := 3, b := b })
  else if k = 4 then thn (rCount r 64) fun n r => thn (rLots n r) fun l r => (r, { Mg.z with k := 4, ps := l })
  else if k = 5 then thn (rInt r) fun a r => (r, { Mg.z with k := 5, day := a })
  else if k = 6 then thn (rInt r) fun a r => thn (rInt r) fun b r => thn (rText r 12) fun s r => (r, { Mg.z with k := 6, mem := a, t := s, n := b })
  else if k = 7 then thn (rInt r) fun a r => thn (rInt r) fun b r => thn (rText r 12) fun s r => (r, { Mg.z with k := 7, mem := a, t := s, n := b })
  else if k = 8 then thn (rQu r) fun q r => (r, { Mg.z with k := 8, q := q })
  else if k = 9 then thn (rInt r) fun a r => thn (rInt r) fun b r => (r, { Mg.z with k := 9, mem := a, n := b })
  else if k = 10 then thn (rInt r) fun a r => thn (rInt r) fun b r => thn (rInt r) fun c r => (r, { Mg.z with k := 10, mem := a, tr := b, day := c })
  else if k = 11 then thn (rInt r) fun a r => thn (rInt r) fun b r => thn (rLot r) fun o r => thn (rCount r 64) fun n r => thn (rLots n r) fun l r => (r, { Mg.z with k := 11, mem := a, tr := b, out := o, ins := l })
  else if k = 12 then thn (rInt r) fun a r => thn (rInt r) fun b r => thn (rBool r) fun d r => (r, { Mg.z with k := 12, mem := a, day := b, done := d })
  else if k = 13 then thn (rInt r) fun a r => (r, { Mg.z with k := 13, mem := a })
  else if k = 14 then thn (rInt r) fun a r => thn (rInt r) fun b r => (r, { Mg.z with k := 14, mem := a, n := b })
  else if k = 15 then thn (rInt r) fun a r => thn (rInt r) fun b r => thn (rInt r) fun c r => (r, { Mg.z with k := 15, tr := a, day := b, rate := c })
  else (r, { Mg.z with k := k })
/-- P10.5: what bytes say -/
def decN (C : Cks) (s : List UInt8) : Mg × Nat × Nat :=
  if (rInt ⟨s, 0, 0⟩).1.e ≠ 0 then (Mg.z, (rInt ⟨s, 0, 0⟩).1.at_, (rInt ⟨s, 0, 0⟩).1.e)
  else if !inn (rInt ⟨s, 0, 0⟩).2 1 15 then (Mg.z, 0, 17)
  else if (rEnd (rdK (rInt ⟨s, 0, 0⟩).2 (rInt ⟨s, 0, 0⟩).1).1).1.e ≠ 0 then (Mg.z, (rEnd (rdK (rInt ⟨s, 0, 0⟩).2 (rInt ⟨s, 0, 0⟩).1).1).1.at_, (rEnd (rdK (rInt ⟨s, 0, 0⟩).2 (rInt ⟨s, 0, 0⟩).1).1).1.e)
  else if chkM C (rdK (rInt ⟨s, 0, 0⟩).2 (rInt ⟨s, 0, 0⟩).1).2 ≠ 0 then (Mg.z, s.length, chkM C (rdK (rInt ⟨s, 0, 0⟩).2 (rInt ⟨s, 0, 0⟩).1).2)
  else ((rdK (rInt ⟨s, 0, 0⟩).2 (rInt ⟨s, 0, 0⟩).1).2, s.length, 0)
/-- a reader at bytes l, and c behind them -/
structure Ah (r : Rd) (l c : List UInt8) : Prop where
  e : r.e = 0
  le : r.at_ ≤ r.s.length
  is : r.s.drop r.at_ = l ++ c
theorem Ah.split {r : Rd} {l c : List UInt8} (h : Ah r l c) : r = ⟨r.s.take r.at_ ++ l ++ c, (r.s.take r.at_).length, 0⟩ := by
  obtain ⟨s, a, e⟩ := r
  have h1 : e = 0 := h.e
  have h2 : a ≤ s.length := h.le
  have h3 : s.drop a = l ++ c := h.is
  subst h1
  have h4 : s.take a ++ l ++ c = s := by rw [List.append_assoc, ← h3, List.take_append_drop]
  have h5 : (s.take a).length = a := by rw [List.length_take]; omega
  show Rd.mk s a 0 = Rd.mk (s.take a ++ l ++ c) (s.take a).length 0
  rw [h4, h5]
/-- a call reads just the bytes of what it tells -/
def Back {α : Type} (f : Rd → Rd × α) (x : α) (L : List UInt8) : Prop := ∀ (r : Rd) (l c : List UInt8), Ah r (L ++ l) c → (f r).2 = x ∧ Ah (f r).1 l c ∧ (f r).1.s = r.s
theorem back_of {α : Type} {f : Rd → Rd × α} {x : α} {L : List UInt8} (h : ∀ a c, f ⟨a ++ L ++ c, a.length, 0⟩ = (⟨a ++ L ++ c, (a ++ L).length, 0⟩, x)) : Back f x L := by
  intro r l c hr
  have hr2 : Ah r L (l ++ c) := ⟨hr.e, hr.le, by rw [hr.is, List.append_assoc]⟩
  have e := hr2.split
  have hf := h (r.s.take r.at_) (l ++ c)
  rw [← e] at hf
  have hs : r.s = r.s.take r.at_ ++ L ++ (l ++ c) := congrArg Rd.s e
  rw [hf]
  refine ⟨rfl, ⟨rfl, ?_, ?_⟩, hs.symm⟩
  · show (r.s.take r.at_ ++ L).length ≤ (r.s.take r.at_ ++ L ++ (l ++ c)).length
    simp
  · show (r.s.take r.at_ ++ L ++ (l ++ c)).drop (r.s.take r.at_ ++ L).length = _
    rw [List.drop_left]
theorem bInt {n : Int} (h : I64 n) : Back rInt n (intL n) := back_of fun a c => rInt_at a c n h
theorem bText {t : List UInt8} {m : Int} (h : (t.length : Int) ≤ m) (h2 : t.length < 18446744073709551616) : Back (fun r => rText r m) t (textL t) := back_of fun a c => rText_at a c t h2 m h
theorem bBool (b : Bool) : Back rBool b (boolL b) := back_of fun a c => rBool_at a c b
theorem bCount {n : Nat} {m : Int} (h : (n : Int) ≤ m) (h2 : n < 18446744073709551616) : Back (fun r => rCount r m) n (uintL n) := back_of fun a c => rCount_at a c n h2 m h
theorem bInts {l : List Int} {m : Int} (h : (l.length : Int) ≤ m) (h2 : l.length < 18446744073709551616) (h3 : ∀ n ∈ l, I64 n) : Back (fun r => rInts r m) l (intsL l) := back_of fun a c => rInts_at a c l h2 h3 m h
theorem bThn {α β : Type} {f : Rd → Rd × α} {g : α → Rd → Rd × β} {x : α} {y : β} {L M : List UInt8} (hf : Back f x L) (hg : Back (g x) y M) : Back (fun r => thn (f r) g) y (L ++ M) := by
  intro r l c hr
  obtain ⟨h1, h2, h3⟩ := hf r (M ++ l) c (by rw [← List.append_assoc]; exact hr)
  obtain ⟨k1, k2, k3⟩ := hg _ l c h2
  show (g (f r).2 (f r).1).2 = y ∧ Ah (g (f r).2 (f r).1).1 l c ∧ (g (f r).2 (f r).1).1.s = r.s
  rw [h1]
  exact ⟨k1, k2, k3.trans h3⟩
theorem bRet {α : Type} (x : α) : Back (fun r => (r, x)) x [] := fun r l c h => ⟨rfl, by simpa using h, rfl⟩
theorem bEnd {α : Type} {f : Rd → Rd × α} {x : α} {L : List UInt8} (h : Back f x (L ++ [])) : Back f x L := by rw [List.append_nil] at h; exact h
theorem bEq {α : Type} {f g : Rd → Rd × α} {x : α} {L : List UInt8} (h : Back g x L) (e : ∀ r, f r = g r) : Back f x L := by
  intro r l c hr
  rw [e]
  exact h r l c hr
theorem bLot {l : Lt} (h : l.i.length ≤ 12) (hq : I64 l.q) : Back rLot l (lotL l) :=
  bEq (g := fun r => thn (rText r 12) fun s r => thn (rInt r) fun n r => (r, (⟨s, n⟩ : Lt))) (bThn (bText (by omega) (by omega)) (bEnd (bThn (bInt hq) (bRet _)))) fun _ => rfl
theorem bCut {l : Ct} (h : I64 l.d ∧ I64 l.r ∧ I64 l.c) : Back rCut l (cutL l) :=
  bEq (g := fun r => thn (rInt r) fun a r => thn (rInt r) fun b r => thn (rInt r) fun c r => (r, (⟨a, b, c⟩ : Ct))) (bThn (bInt h.1) (bThn (bInt h.2.1) (bEnd (bThn (bInt h.2.2) (bRet _))))) fun _ => rfl
theorem bLots (l : List Lt) (h : ∀ x ∈ l, x.i.length ≤ 12 ∧ I64 x.q) : Back (rLots l.length) l (flatM lotL l) := by
  induction l with
  | nil => exact bRet []
  | cons x l ih =>
    have hx := h x (List.mem_cons_self ..)
    intro r m c hr
    have e : rLots (x :: l).length r = thn (rLot r) fun o r => thn (rLots l.length r) fun k r => (r, o :: k) := by
      show (if r.e ≠ 0 then _ else _) = _
      rw [if_neg (by simpa using hr.e)]
      rfl
    rw [e]
    exact bThn (bLot hx.1 hx.2) (bEnd (bThn (ih fun y hy => h y (List.mem_cons_of_mem _ hy)) (bRet _))) r m c hr
theorem bCuts (l : List Ct) (h : ∀ x ∈ l, I64 x.d ∧ I64 x.r ∧ I64 x.c) : Back (rCuts l.length) l (flatM cutL l) := by
  induction l with
  | nil => exact bRet []
  | cons x l ih =>
    intro r m c hr
    have e : rCuts (x :: l).length r = thn (rCut r) fun o r => thn (rCuts l.length r) fun k r => (r, o :: k) := by
      show (if r.e ≠ 0 then _ else _) = _
      rw [if_neg (by simpa using hr.e)]
      rfl
    rw [e]
    exact bThn (bCut (h x (List.mem_cons_self ..))) (bEnd (bThn (ih fun y hy => h y (List.mem_cons_of_mem _ hy)) (bRet _))) r m c hr
end Go.Proofs.YtdmlgheajblcdaaGreat

/- layer 10, numbers: what is encoded is decoded as it was -/
namespace Go.Proofs.YtdmlgheajblcdaaGreat
open Go.RowKit
set_option linter.unusedVariables false
set_option linter.unusedSimpArgs false
theorem inn_of {n a b : Int} (h : inn n a b = true) : a ≤ n ∧ n ≤ b := by
  unfold inn at h
  simpa using h
theorem bBk {b : Bk} (hb : I64 b.id ∧ I64 b.ver ∧ I64 b.rat ∧ I64 b.least ∧ I64 b.most ∧ I64 b.iss ∧ I64 b.ass ∧ (∀ c ∈ b.cuts, I64 c.d ∧ I64 c.r ∧ I64 c.c) ∧ ∀ n ∈ b.bar, I64 n) (hc : b.cur.length ≤ 12) (h1 : b.cuts.length ≤ 64) (h2 : b.bar.length ≤ 64) : Back rBk b (bkL b) := by
  obtain ⟨i1, i2, i3, i4, i5, i6, i7, i8, i9⟩ := hb
  exact bThn (bInt i1) (bThn (bInt i2) (bThn (bInt i3) (bThn (bInt i4) (bThn (bInt i5) (bThn (bInt i6) (bThn (bInt i7) (bThn (bText (by omega) (by omega)) (bThn (bCount (by omega) (by omega)) (bThn (bCuts b.cuts i8) (bEnd (bThn (bInts (by omega) (by omega) i9) (bRet _))))))))))))
theorem bQu {q : Qu} (h : I64 q.id ∧ I64 q.mem ∧ I64 q.side ∧ I64 q.bas ∧ I64 q.am ∧ I64 q.rate ∧ I64 q.st ∧ I64 q.en) : Back rQu q (quL q) := by
  obtain ⟨i1, i2, i3, i4, i5, i6, i7, i8⟩ := h
  exact bThn (bInt i1) (bThn (bInt i2) (bThn (bInt i3) (bThn (bInt i4) (bThn (bInt i5) (bThn (bInt i6) (bThn (bInt i7) (bEnd (bThn (bInt i8) (bRet _)))))))))
theorem lotsE_len {C : Cks} (hC : C.Ok) : ∀ (l : List Lt), lotsE C l = 0 → ∀ x ∈ l, x.i.length ≤ 12 := by
  intro l
  induction l with
  | nil => intro _ x hx; exact (List.not_mem_nil hx).elim
  | cons y l ih =>
    intro h x hx
    unfold lotsE at h
    by_cases h0 : lotE C y = 0
    · rw [if_pos h0] at h
      rcases List.mem_cons.1 hx with rfl | hx
      · unfold lotE at h0
        by_cases ha : amt x.q = true
        · rw [if_pos ha] at h0; exact hC.is _ h0
        · rw [if_neg ha] at h0; exact absurd h0 (by omega)
      · exact ih h x hx
    · rw [if_neg h0] at h
      exact absurd h h0
theorem prsE_len {C : Cks} (hC : C.Ok) : ∀ (l : List Lt) (p : Option (List UInt8)), prsE C p l = 0 → ∀ x ∈ l, x.i.length ≤ 12 := by
  intro l
  induction l with
  | nil => intro _ _ x hx; exact (List.not_mem_nil hx).elim
  | cons y l ih =>
    intro p h x hx
    unfold prsE at h
    by_cases h0 : C.is y.i ≠ 0
    · rw [if_pos h0] at h; exact absurd h h0
    · rw [if_neg h0] at h
      have h0' : C.is y.i = 0 := by simpa using h0
      by_cases hg : (!(inn y.q 1 4294967296 && prGo C p y.i)) = true
      · rw [if_pos hg] at h
        exact absurd h (by omega)
      · rw [if_neg hg] at h
        rcases List.mem_cons.1 hx with rfl | hx
        · exact hC.is _ h0'
        · exact ih _ h x hx
theorem bkE_len {C : Cks} (hC : C.Ok) {b : Bk} (h : bkE C b = 0) : b.cur.length ≤ 12 ∧ b.cuts.length ≤ 64 ∧ b.bar.length ≤ 64 := by
  unfold bkE at h
  split at h
  · omega
  · next h1 =>
    split at h
    · omega
    · split at h
      · omega
      · next h3 =>
        simp only [Bool.not_eq_true', Bool.not_eq_false, Bool.and_eq_true, decide_eq_true_eq] at h1 h3
        exact ⟨hC.cu _ h3, h1.2.2.2.2.2.2.1, h1.2.2.2.2.2.2.2⟩
theorem bBod {C : Cks} (hC : C.Ok) {m : Mg} (hw : m.Wf) (h : chkM C m = 0) : Back (rdK m.k) (plainM m) (bodL m) := by
  unfold chkM at h
  by_cases k1 : m.k = 1
  · rw [if_pos k1] at h
    unfold plainM bodL
    rw [if_pos k1, if_pos k1, k1]
    have hm : mbr m.mem = true := by apply Classical.byContradiction; intro hn; rw [if_neg hn] at h; omega
    rw [if_pos hm] at h
    have := hC.nm _ h
    exact bThn (bInt hw.mem) (bEnd (bThn (bText (by omega) (by omega)) (bRet _)))
  rw [if_neg k1] at h
  by_cases k2 : m.k = 2
  · rw [if_pos k2] at h
    unfold plainM bodL
    rw [if_neg k1, if_neg k1, if_pos k2, if_pos k2, k2]
    have := hC.ast _ h
    exact bThn (bText (by omega) (by omega)) (bThn (bInt hw.a.1) (bThn (bInt hw.a.2.1) (bThn (bInt hw.a.2.2) (bEnd (bThn (bText (by omega) (by omega)) (bRet _))))))
  rw [if_neg k2] at h
  by_cases k3 : m.k = 3
  · rw [if_pos k3] at h
    unfold plainM bodL
    rw [if_neg k1, if_neg k1, if_neg k2, if_neg k2, if_pos k3, if_pos k3, k3]
    have hb := bkE_len hC h
    exact bEnd (bThn (bBk hw.b hb.1 hb.2.1 hb.2.2) (bRet _))
  rw [if_neg k3] at h
  by_cases k4 : m.k = 4
  · rw [if_pos k4] at h
    unfold plainM bodL
    rw [if_neg k1, if_neg k1, if_neg k2, if_neg k2, if_neg k3, if_neg k3, if_pos k4, if_pos k4, k4]
    unfold prE at h
    split at h
    · omega
    · next hl =>
      have h2 := prsE_len hC _ _ h
      exact bThn (bCount (by omega) (by omega)) (bEnd (bThn (bLots m.ps fun x hx => ⟨h2 x hx, hw.ps x hx⟩) (bRet _)))
  rw [if_neg k4] at h
  by_cases k5 : m.k = 5
  · unfold plainM bodL
    rw [if_neg k1, if_neg k1, if_neg k2, if_neg k2, if_neg k3, if_neg k3, if_neg k4, if_neg k4, if_pos k5, if_pos k5, k5]
    exact bEnd (bThn (bInt hw.day) (bRet _))
  rw [if_neg k5] at h
  by_cases k6 : m.k = 6
  · rw [if_pos k6] at h
    unfold plainM bodL
    rw [if_neg k1, if_neg k1, if_neg k2, if_neg k2, if_neg k3, if_neg k3, if_neg k4, if_neg k4, if_neg k5, if_neg k5, if_pos k6, if_pos k6, k6]
    have hm : C.cu m.t = true := by apply Classical.byContradiction; intro hn; rw [if_neg hn] at h; omega
    have := hC.cu _ hm
    exact bThn (bInt hw.mem) (bThn (bInt hw.n) (bEnd (bThn (bText (by omega) (by omega)) (bRet _))))
  rw [if_neg k6] at h
  by_cases k7 : m.k = 7
  · rw [if_pos k7] at h
    unfold plainM bodL
    rw [if_neg k1, if_neg k1, if_neg k2, if_neg k2, if_neg k3, if_neg k3, if_neg k4, if_neg k4, if_neg k5, if_neg k5, if_neg k6, if_neg k6, if_pos k7, if_pos k7, k7]
    have hm : (mbr m.mem && sgn m.n) = true := by apply Classical.byContradiction; intro hn; rw [if_neg hn] at h; omega
    rw [if_pos hm] at h
    have := hC.is _ h
    exact bThn (bInt hw.mem) (bThn (bInt hw.n) (bEnd (bThn (bText (by omega) (by omega)) (bRet _))))
  rw [if_neg k7] at h
  by_cases k8 : m.k = 8
  · unfold plainM bodL
    rw [if_neg k1, if_neg k1, if_neg k2, if_neg k2, if_neg k3, if_neg k3, if_neg k4, if_neg k4, if_neg k5, if_neg k5, if_neg k6, if_neg k6, if_neg k7, if_neg k7, if_pos k8, if_pos k8, k8]
    exact bEnd (bThn (bQu hw.q) (bRet _))
  rw [if_neg k8] at h
  by_cases k9 : m.k = 9
  · unfold plainM bodL
    rw [if_neg k1, if_neg k1, if_neg k2, if_neg k2, if_neg k3, if_neg k3, if_neg k4, if_neg k4, if_neg k5, if_neg k5, if_neg k6, if_neg k6, if_neg k7, if_neg k7, if_neg k8, if_neg k8, if_pos k9, if_pos k9, k9]
    exact bThn (bInt hw.mem) (bEnd (bThn (bInt hw.n) (bRet _)))
  rw [if_neg k9] at h
  by_cases k10 : m.k = 10
  · unfold plainM bodL
    rw [if_neg k1, if_neg k1, if_neg k2, if_neg k2, if_neg k3, if_neg k3, if_neg k4, if_neg k4, if_neg k5, if_neg k5, if_neg k6, if_neg k6, if_neg k7, if_neg k7, if_neg k8, if_neg k8, if_neg k9, if_neg k9, if_pos k10, if_pos k10, k10]
    exact bThn (bInt hw.mem) (bThn (bInt hw.tr) (bEnd (bThn (bInt hw.day) (bRet _))))
  rw [if_neg k10] at h
  by_cases k11 : m.k = 11
  · rw [if_pos k11] at h
    unfold plainM bodL
    rw [if_neg k1, if_neg k1, if_neg k2, if_neg k2, if_neg k3, if_neg k3, if_neg k4, if_neg k4, if_neg k5, if_neg k5, if_neg k6, if_neg k6, if_neg k7, if_neg k7, if_neg k8, if_neg k8, if_neg k9, if_neg k9, if_neg k10, if_neg k10, if_pos k11, if_pos k11, k11]
    have hm : (mbr m.mem && (amt m.tr && decide (m.ins.length ≤ 64))) = true := by apply Classical.byContradiction; intro hn; rw [if_neg hn] at h; omega
    rw [if_pos hm] at h
    have h2 := lotsE_len hC _ h
    simp only [Bool.and_eq_true, decide_eq_true_eq] at hm
    exact bThn (bInt hw.mem) (bThn (bInt hw.tr) (bThn (bLot (h2 _ (List.mem_cons_self ..)) hw.out) (bThn (bCount (by omega) (by omega)) (bEnd (bThn (bLots m.ins fun x hx => ⟨h2 x (List.mem_cons_of_mem _ hx), hw.ins x hx⟩) (bRet _))))))
  rw [if_neg k11] at h
  by_cases k12 : m.k = 12
  · unfold plainM bodL
    rw [if_neg k1, if_neg k1, if_neg k2, if_neg k2, if_neg k3, if_neg k3, if_neg k4, if_neg k4, if_neg k5, if_neg k5, if_neg k6, if_neg k6, if_neg k7, if_neg k7, if_neg k8, if_neg k8, if_neg k9, if_neg k9, if_neg k10, if_neg k10, if_neg k11, if_neg k11, if_pos k12, if_pos k12, k12]
    exact bThn (bInt hw.mem) (bThn (bInt hw.day) (bEnd (bThn (bBool _) (bRet _))))
  rw [if_neg k12] at h
  by_cases k13 : m.k = 13
  · unfold plainM bodL
    rw [if_neg k1, if_neg k1, if_neg k2, if_neg k2, if_neg k3, if_neg k3, if_neg k4, if_neg k4, if_neg k5, if_neg k5, if_neg k6, if_neg k6, if_neg k7, if_neg k7, if_neg k8, if_neg k8, if_neg k9, if_neg k9, if_neg k10, if_neg k10, if_neg k11, if_neg k11, if_neg k12, if_neg k12, if_pos k13, if_pos k13, k13]
    exact bEnd (bThn (bInt hw.mem) (bRet _))
  rw [if_neg k13] at h
  by_cases k14 : m.k = 14
  · unfold plainM bodL
    rw [if_neg k1, if_neg k1, if_neg k2, if_neg k2, if_neg k3, if_neg k3, if_neg k4, if_neg k4, if_neg k5, if_neg k5, if_neg k6, if_neg k6, if_neg k7, if_neg k7, if_neg k8, if_neg k8, if_neg k9, if_neg k9, if_neg k10, if_neg k10, if_neg k11, if_neg k11, if_neg k12, if_neg k12, if_neg k13, if_neg k13, if_pos k14, if_pos k14, k14]
    exact bThn (bInt hw.mem) (bEnd (bThn (bInt hw.n) (bRet _)))
  rw [if_neg k14] at h
  by_cases k15 : m.k = 15
  · unfold plainM bodL
    rw [if_neg k1, if_neg k1, if_neg k2, if_neg k2, if_neg k3, if_neg k3, if_neg k4, if_neg k4, if_neg k5, if_neg k5, if_neg k6, if_neg k6, if_neg k7, if_neg k7, if_neg k8, if_neg k8, if_neg k9, if_neg k9, if_neg k10, if_neg k10, if_neg k11, if_neg k11, if_neg k12, if_neg k12, if_neg k13, if_neg k13, if_neg k14, if_neg k14, if_pos k15, if_pos k15, k15]
    exact bThn (bInt hw.tr) (bThn (bInt hw.day) (bEnd (bThn (bInt hw.rate) (bRet _))))
  rw [if_neg k15] at h
  omega
end Go.Proofs.YtdmlgheajblcdaaGreat

/- layer 10, numbers: what is encoded is decoded; what is decoded was so encoded -/
namespace Go.Proofs.YtdmlgheajblcdaaGreat
open Go.RowKit
set_option linter.unusedVariables false
set_option linter.unusedSimpArgs false
theorem kinds (k : Int) : inn k 1 15 = false ∨ k = 1 ∨ k = 2 ∨ k = 3 ∨ k = 4 ∨ k = 5 ∨ k = 6 ∨ k = 7 ∨ k = 8 ∨ k = 9 ∨ k = 10 ∨ k = 11 ∨ k = 12 ∨ k = 13 ∨ k = 14 ∨ k = 15 := by
  cases h : inn k 1 15 with
  | false => exact .inl rfl
  | true => have h1 := inn_of h; omega
theorem not_kind {k : Int} (h : inn k 1 15 = false) (j : Int) (h1 : 1 ≤ j) (h2 : j ≤ 15) : ¬ k = j := by
  rintro rfl
  unfold inn at h
  rw [decide_eq_true h1, decide_eq_true h2] at h
  exact absurd h (by decide)
theorem chk_none {C : Cks} {m : Mg} (h : inn m.k 1 15 = false) : chkM C m = 17 := by
  have k1 := not_kind h 1 (by omega) (by omega)
  have k2 := not_kind h 2 (by omega) (by omega)
  have k3 := not_kind h 3 (by omega) (by omega)
  have k4 := not_kind h 4 (by omega) (by omega)
  have k5 := not_kind h 5 (by omega) (by omega)
  have k6 := not_kind h 6 (by omega) (by omega)
  have k7 := not_kind h 7 (by omega) (by omega)
  have k8 := not_kind h 8 (by omega) (by omega)
  have k9 := not_kind h 9 (by omega) (by omega)
  have k10 := not_kind h 10 (by omega) (by omega)
  have k11 := not_kind h 11 (by omega) (by omega)
  have k12 := not_kind h 12 (by omega) (by omega)
  have k13 := not_kind h 13 (by omega) (by omega)
  have k14 := not_kind h 14 (by omega) (by omega)
  have k15 := not_kind h 15 (by omega) (by omega)
  unfold chkM
  rw [if_neg k1, if_neg k2, if_neg k3, if_neg k4, if_neg k5, if_neg k6, if_neg k7, if_neg k8, if_neg k9, if_neg k10, if_neg k11, if_neg k12, if_neg k13, if_neg k14, if_neg k15]
theorem plain_none {m : Mg} (h : inn m.k 1 15 = false) : plainM m = { Mg.z with k := m.k } := by
  have k1 := not_kind h 1 (by omega) (by omega)
  have k2 := not_kind h 2 (by omega) (by omega)
  have k3 := not_kind h 3 (by omega) (by omega)
  have k4 := not_kind h 4 (by omega) (by omega)
  have k5 := not_kind h 5 (by omega) (by omega)
  have k6 := not_kind h 6 (by omega) (by omega)
  have k7 := not_kind h 7 (by omega) (by omega)
  have k8 := not_kind h 8 (by omega) (by omega)
  have k9 := not_kind h 9 (by omega) (by omega)
  have k10 := not_kind h 10 (by omega) (by omega)
  have k11 := not_kind h 11 (by omega) (by omega)
  have k12 := not_kind h 12 (by omega) (by omega)
  have k13 := not_kind h 13 (by omega) (by omega)
  have k14 := not_kind h 14 (by omega) (by omega)
  have k15 := not_kind h 15 (by omega) (by omega)
  unfold plainM
  rw [if_neg k1, if_neg k2, if_neg k3, if_neg k4, if_neg k5, if_neg k6, if_neg k7, if_neg k8, if_neg k9, if_neg k10, if_neg k11, if_neg k12, if_neg k13, if_neg k14, if_neg k15]
theorem bod_none {m : Mg} (h : inn m.k 1 15 = false) : bodL m = [] := by
  have k1 := not_kind h 1 (by omega) (by omega)
  have k2 := not_kind h 2 (by omega) (by omega)
  have k3 := not_kind h 3 (by omega) (by omega)
  have k4 := not_kind h 4 (by omega) (by omega)
  have k5 := not_kind h 5 (by omega) (by omega)
  have k6 := not_kind h 6 (by omega) (by omega)
  have k7 := not_kind h 7 (by omega) (by omega)
  have k8 := not_kind h 8 (by omega) (by omega)
  have k9 := not_kind h 9 (by omega) (by omega)
  have k10 := not_kind h 10 (by omega) (by omega)
  have k11 := not_kind h 11 (by omega) (by omega)
  have k12 := not_kind h 12 (by omega) (by omega)
  have k13 := not_kind h 13 (by omega) (by omega)
  have k14 := not_kind h 14 (by omega) (by omega)
  have k15 := not_kind h 15 (by omega) (by omega)
  unfold bodL
  rw [if_neg k1, if_neg k2, if_neg k3, if_neg k4, if_neg k5, if_neg k6, if_neg k7, if_neg k8, if_neg k9, if_neg k10, if_neg k11, if_neg k12, if_neg k13, if_neg k14, if_neg k15]
theorem plain_k (m : Mg) : (plainM m).k = m.k := by
  obtain ⟨k, mem, name, a, b, ps, day, t, n, q, out, ins, tr, done, rate⟩ := m
  rcases kinds k with h | rfl | rfl | rfl | rfl | rfl | rfl | rfl | rfl | rfl | rfl | rfl | rfl | rfl | rfl | rfl
  · rw [plain_none h]
  all_goals rfl
theorem chk_plain (C : Cks) (m : Mg) : chkM C (plainM m) = chkM C m := by
  obtain ⟨k, mem, name, a, b, ps, day, t, n, q, out, ins, tr, done, rate⟩ := m
  rcases kinds k with h | rfl | rfl | rfl | rfl | rfl | rfl | rfl | rfl | rfl | rfl | rfl | rfl | rfl | rfl | rfl
  · rw [chk_none (m := plainM _) (by rw [plain_k]; exact h), chk_none h]
  all_goals rfl
theorem bod_plain (m : Mg) : bodL (plainM m) = bodL m := by
  obtain ⟨k, mem, name, a, b, ps, day, t, n, q, out, ins, tr, done, rate⟩ := m
  rcases kinds k with h | rfl | rfl | rfl | rfl | rfl | rfl | rfl | rfl | rfl | rfl | rfl | rfl | rfl | rfl | rfl
  · rw [bod_none (m := plainM _) (by rw [plain_k]; exact h), bod_none h]
  all_goals rfl
theorem enc_plain (m : Mg) : encL (plainM m) = encL m := by
  unfold encL
  rw [plain_k, bod_plain]
theorem plain_plain (m : Mg) : plainM (plainM m) = plainM m := by
  obtain ⟨k, mem, name, a, b, ps, day, t, n, q, out, ins, tr, done, rate⟩ := m
  rcases kinds k with h | rfl | rfl | rfl | rfl | rfl | rfl | rfl | rfl | rfl | rfl | rfl | rfl | rfl | rfl | rfl
  · rw [plain_none (m := plainM _) (by rw [plain_k]; exact h), plain_none h]
  all_goals rfl
theorem chk_kind {C : Cks} {m : Mg} (h : chkM C m = 0) : inn m.k 1 15 = true := by
  cases hk : inn m.k 1 15 with
  | true => rfl
  | false => rw [chk_none hk] at h; omega
theorem dec_enc {C : Cks} (hC : C.Ok) {m : Mg} (hw : m.Wf) (h : chkM C m = 0) : decN C (encL m) = (plainM m, (encL m).length, 0) := by
  have h0 : Ah ⟨encL m, 0, 0⟩ (intL m.k ++ (bodL m ++ [])) [] := ⟨rfl, Nat.zero_le _, by show (encL m).drop 0 = _; simp [encL]⟩
  obtain ⟨h1, h2, h3⟩ := bInt hw.k ⟨encL m, 0, 0⟩ (bodL m ++ []) [] h0
  obtain ⟨k1, k2, k3⟩ := bBod hC hw h (rInt ⟨encL m, 0, 0⟩).1 [] [] h2
  have hat : ¬ (rdK m.k (rInt ⟨encL m, 0, 0⟩).1).1.at_ < (rdK m.k (rInt ⟨encL m, 0, 0⟩).1).1.s.length := by
    have := congrArg List.length k2.is
    rw [List.length_drop] at this
    simp at this
    omega
  have he := k2.e
  have hE : rEnd (rdK m.k (rInt ⟨encL m, 0, 0⟩).1).1 = ((rdK m.k (rInt ⟨encL m, 0, 0⟩).1).1, true) := by
    unfold rEnd
    rw [if_neg hat]
    simp [he]
  unfold decN
  rw [h1, if_neg (by simpa using h2.e), if_neg (by rw [chk_kind h]; simp), hE, if_neg (by simpa using he), k1, if_neg (by rw [chk_plain]; simpa using h)]
/-- a call that leaves no fault tells what just so many bytes say -/
def Fw {α : Type} (f : Rd → Rd × α) (P : α → List UInt8 → Prop) : Prop := ∀ r, r.Ok → (f r).1.Ok ∧ (f r).1.s = r.s ∧ (r.e ≠ 0 → (f r).1 = r) ∧ ((f r).1.e = 0 → ∃ l, r.s.drop r.at_ = l ++ r.s.drop (f r).1.at_ ∧ P (f r).2 l)
theorem fMono {α : Type} {f : Rd → Rd × α} {P Q : α → List UInt8 → Prop} (h : Fw f P) (hq : ∀ x l, P x l → Q x l) : Fw f Q := fun r hr => by
  obtain ⟨h1, h2, h3, h4⟩ := h r hr
  refine ⟨h1, h2, h3, fun he => ?_⟩
  obtain ⟨l, hl, hp⟩ := h4 he
  exact ⟨l, hl, hq _ _ hp⟩
theorem fRet {α : Type} (v : α) : Fw (fun r => (r, v)) (fun y l => y = v ∧ l = []) := fun r hr => ⟨hr, rfl, fun _ => rfl, fun _ => ⟨[], rfl, rfl, rfl⟩⟩
theorem fThn {α β : Type} {f : Rd → Rd × α} {g : α → Rd → Rd × β} {P : α → List UInt8 → Prop} {Q : α → β → List UInt8 → Prop} (hf : Fw f P) (hg : ∀ x, Fw (g x) (Q x)) : Fw (fun r => thn (f r) g) (fun y l => ∃ x l1 l2, l = l1 ++ l2 ∧ P x l1 ∧ Q x y l2) := fun r hr => by
  obtain ⟨h1, h2, h3, h4⟩ := hf r hr
  obtain ⟨k1, k2, k3, k4⟩ := hg (f r).2 (f r).1 h1
  show (g (f r).2 (f r).1).1.Ok ∧ (g (f r).2 (f r).1).1.s = r.s ∧ (r.e ≠ 0 → (g (f r).2 (f r).1).1 = r) ∧ ((g (f r).2 (f r).1).1.e = 0 → ∃ l, r.s.drop r.at_ = l ++ r.s.drop (g (f r).2 (f r).1).1.at_ ∧ _)
  refine ⟨k1, k2.trans h2, fun he => ?_, fun he => ?_⟩
  · rw [k3 (by rw [h3 he]; exact he), h3 he]
  · have h0 : (f r).1.e = 0 := by
      apply Classical.byContradiction
      intro hn
      rw [k3 hn] at he
      exact hn he
    obtain ⟨l1, e1, p1⟩ := h4 h0
    obtain ⟨l2, e2, p2⟩ := k4 he
    rw [h2] at e2
    exact ⟨l1 ++ l2, by rw [e1, e2, List.append_assoc], (f r).2, l1, l2, rfl, p1, p2⟩
theorem fEq {α : Type} {f g : Rd → Rd × α} {P : α → List UInt8 → Prop} (h : Fw g P) (e : ∀ r, f r = g r) : Fw f P := fun r hr => by rw [e]; exact h r hr
theorem fUint : Fw rUint (fun n l => l = uintL n ∧ n < 18446744073709551616) := fun r hr => by
  obtain ⟨h1, h2, h3, h4⟩ := rUint_ok hr
  refine ⟨h1, h2, fun he => by rw [rUint_bad he], fun he => ?_⟩
  have h0 : r.e = 0 := by
    apply Classical.byContradiction
    intro hn
    rw [rUint_bad hn] at he
    exact hn he
  by_cases hu : (rdU (r.s.drop r.at_)).1 = 0
  · have e : rUint r = ({ r with at_ := r.at_ + (rdU (r.s.drop r.at_)).2.2 }, (rdU (r.s.drop r.at_)).2.1) := by unfold rUint; rw [if_neg (by simpa using h0), if_pos hu]
    have hk := rdU_ok (s := r.s.drop r.at_) (m := (rdU (r.s.drop r.at_)).2.1) (j := (rdU (r.s.drop r.at_)).2.2) (by rw [← hu])
    refine ⟨uintL (rUint r).2, ?_, rfl, h4⟩
    rw [e]
    show r.s.drop r.at_ = uintL (rdU (r.s.drop r.at_)).2.1 ++ r.s.drop (r.at_ + (rdU (r.s.drop r.at_)).2.2)
    rw [hk.2.1, ← List.drop_drop, List.take_append_drop]
  · exfalso
    unfold rUint at he
    rw [if_neg (by simpa using h0), if_neg hu] at he
    exact hu he
theorem fInt : Fw rInt (fun n l => l = intL n ∧ I64 n) := fun r hr => by
  obtain ⟨h1, h2, h3, h4⟩ := fUint r hr
  refine ⟨h1, h2, h3, fun he => ?_⟩
  obtain ⟨l, e, p1, p2⟩ := h4 he
  refine ⟨l, e, ?_, un_in p2⟩
  rw [p1]
  show _ = uintL (fo (un (rUint r).2))
  rw [fo_un]
theorem fCount (m : Int) : Fw (fun r => rCount r m) (fun n l => l = uintL n ∧ (n : Int) ≤ m ∧ n < 18446744073709551616) := fun r hr => by
  obtain ⟨h1, h2, h3, h4⟩ := fUint r hr
  have ho := rCount_ok hr m
  refine ⟨ho.1, ho.2, fun he => by show (rCount r m).1 = r; rw [rCount_bad he], fun he => ?_⟩
  change (rCount r m).1.e = 0 at he
  have hu : (rUint r).1.e = 0 := by
    apply Classical.byContradiction
    intro hn
    unfold rCount at he
    rw [if_pos hn] at he
    exact hn he
  have h0 : r.e = 0 := by
    apply Classical.byContradiction
    intro hn
    rw [rUint_bad hn] at hu
    exact hn hu
  have hle : ¬ (((rUint r).2 : Nat) : Int) > m := by
    intro hgt
    unfold rCount at he
    rw [if_neg (by simpa using hu), if_pos hgt] at he
    simp [Rd.fl, h0] at he
  have e : rCount r m = rUint r := by unfold rCount; rw [if_neg (by simpa using hu), if_neg hle]
  obtain ⟨l, e1, p1, p2⟩ := h4 hu
  refine ⟨l, ?_, ?_, ?_, ?_⟩
  · show r.s.drop r.at_ = l ++ r.s.drop (rCount r m).1.at_; rw [e]; exact e1
  · show l = uintL (rCount r m).2; rw [e]; exact p1
  · show ((rCount r m).2 : Int) ≤ m; rw [e]; omega
  · show (rCount r m).2 < _; rw [e]; exact p2
theorem fText (m : Int) : Fw (fun r => rText r m) (fun t l => l = textL t ∧ (t.length : Int) ≤ m) := fun r hr => by
  obtain ⟨h1, h2, h3, h4⟩ := fCount m r hr
  have ho := rText_ok hr m
  refine ⟨ho.1, ho.2, fun he => by show (rText r m).1 = r; rw [rText_bad he], fun he => ?_⟩
  change (rText r m).1.e = 0 at he
  change (rCount r m).1.e = 0 → _ at h4
  have hu : (rCount r m).1.e = 0 := by
    apply Classical.byContradiction
    intro hn
    unfold rText at he
    rw [if_pos hn] at he
    exact hn he
  have h0 : r.e = 0 := by
    apply Classical.byContradiction
    intro hn
    rw [rCount_bad hn] at hu
    exact hn hu
  have hle : ¬ r.s.length < (rCount r m).1.at_ + (rCount r m).2 := by
    intro hgt
    unfold rText at he
    rw [if_neg (by simpa using hu), if_pos hgt] at he
    simp [Rd.fl, h0] at he
  have e : rText r m = ({ r with at_ := (rCount r m).1.at_ + (rCount r m).2 }, (r.s.drop (rCount r m).1.at_).take (rCount r m).2) := by unfold rText; rw [if_neg (by simpa using hu), if_neg hle]
  obtain ⟨l, e1, p1, p2, p3⟩ := h4 hu
  change r.s.drop r.at_ = l ++ r.s.drop (rCount r m).1.at_ at e1
  change l = uintL (rCount r m).2 at p1
  change ((rCount r m).2 : Int) ≤ m at p2
  have hl : ((r.s.drop (rCount r m).1.at_).take (rCount r m).2).length = (rCount r m).2 := by rw [List.length_take, List.length_drop]; omega
  refine ⟨l ++ (r.s.drop (rCount r m).1.at_).take (rCount r m).2, ?_, ?_, ?_⟩
  · show r.s.drop r.at_ = _ ++ r.s.drop (rText r m).1.at_
    rw [e, e1, List.append_assoc]
    show _ = l ++ (_ ++ r.s.drop ((rCount r m).1.at_ + (rCount r m).2))
    rw [← List.drop_drop, List.take_append_drop]
  · show _ = textL (rText r m).2
    rw [e, p1]
    show _ = uintL ((r.s.drop (rCount r m).1.at_).take (rCount r m).2).length ++ _
    rw [hl]
  · show ((rText r m).2.length : Int) ≤ m
    rw [e]
    show (((r.s.drop (rCount r m).1.at_).take (rCount r m).2).length : Int) ≤ m
    rw [hl]
    exact p2
theorem fBool : Fw rBool (fun b l => l = boolL b) := fun r hr => by
  have ho := rBool_ok hr
  refine ⟨ho.1, ho.2, fun he => by rw [rBool_bad he], fun he => ?_⟩
  have h0 : r.e = 0 := by
    apply Classical.byContradiction
    intro hn
    rw [rBool_bad hn] at he
    exact hn he
  cases hc : r.s[r.at_]? with
  | none =>
    exfalso
    unfold rBool at he
    rw [if_neg (by simpa using h0), hc] at he
    simp at he
  | some c =>
    by_cases h1 : 1 < c.toNat
    · exfalso
      unfold rBool at he
      rw [if_neg (by simpa using h0), hc] at he
      simp [h1] at he
    · have e : rBool r = ({ r with at_ := r.at_ + 1 }, c.toNat == 1) := by unfold rBool; rw [if_neg (by simpa using h0), hc]; simp [h1]
      obtain ⟨hlt, hce⟩ := List.getElem?_eq_some_iff.1 hc
      refine ⟨[c], ?_, ?_⟩
      · rw [e, List.drop_eq_getElem_cons hlt, hce]
        rfl
      · rw [e]
        have hcl := c.toNat_lt
        unfold boolL
        by_cases h2 : c.toNat = 1
        · rw [show c = 1 from UInt8.toNat_inj.mp h2]; rfl
        · rw [show c = 0 from UInt8.toNat_inj.mp (by show c.toNat = 0; omega)]; rfl
end Go.Proofs.YtdmlgheajblcdaaGreat

/- layer 10, numbers: what is decoded was so encoded -/
namespace Go.Proofs.YtdmlgheajblcdaaGreat
open Go.RowKit
set_option linter.unusedVariables false
set_option linter.unusedSimpArgs false
theorem fIs (n : Nat) : Fw (rIs n) (fun xs l => xs.length = n ∧ l = flatI xs ∧ ∀ x ∈ xs, I64 x) := by
  induction n with
  | zero => exact fMono (fRet []) fun x l h => by obtain ⟨rfl, rfl⟩ := h; exact ⟨rfl, rfl, fun x hx => (List.not_mem_nil hx).elim⟩
  | succ n ih =>
    intro r hr
    have ho := rIs_ok (n + 1) hr
    refine ⟨ho.1, ho.2, fun he => by unfold rIs; rw [if_pos he], fun he => ?_⟩
    have h0 : r.e = 0 := by
      apply Classical.byContradiction
      intro hn
      unfold rIs at he
      rw [if_pos hn] at he
      exact hn he
    have e : rIs (n + 1) r = thn (rInt r) fun x r => thn (rIs n r) fun k r => (r, x :: k) := by
      show (if r.e ≠ 0 then _ else _) = _
      rw [if_neg (by simpa using h0)]
      rfl
    rw [e] at he ⊢
    obtain ⟨l, e1, x, l1, l2, rfl, ⟨rfl, p1⟩, ⟨xs, l3, l4, rfl, ⟨q1, rfl, q2⟩, q3, rfl⟩⟩ := (fThn fInt fun x => fThn ih fun k => fRet (x :: k)) r hr |>.2.2.2 he
    refine ⟨_, e1, ?_⟩
    change (thn (rInt r) fun x r => thn (rIs n r) fun k r => (r, x :: k)).2 = x :: xs at q3
    rw [q3]
    refine ⟨by rw [List.length_cons, q1], by simp [flatI], fun y hy => ?_⟩
    rcases List.mem_cons.1 hy with rfl | hy
    · exact p1
    · exact q2 y hy
theorem fInts (m : Int) : Fw (fun r => rInts r m) (fun xs l => l = intsL xs ∧ (xs.length : Int) ≤ m ∧ ∀ x ∈ xs, I64 x) := fun r hr => by
  have ho := rInts_ok hr m
  refine ⟨ho.1, ho.2, fun he => by show (rInts r m).1 = r; rw [rInts_bad he], fun he => ?_⟩
  change (rInts r m).1.e = 0 at he
  have hu : (rIs (rCount r m).2 (rCount r m).1).1.e = 0 := by
    apply Classical.byContradiction
    intro hn
    unfold rInts at he
    rw [if_pos hn] at he
    exact hn he
  have e : rInts r m = thn (rCount r m) fun n r => rIs n r := by unfold rInts thn; rw [if_neg (by simpa using hu)]
  obtain ⟨l, e1, n, l1, l2, rfl, ⟨rfl, p1, p2⟩, ⟨q1, rfl, q2⟩⟩ := (fThn (fCount m) fun n => fIs n) r hr |>.2.2.2 hu
  change r.s.drop r.at_ = _ ++ r.s.drop (thn (rCount r m) fun n r => rIs n r).1.at_ at e1
  change (thn (rCount r m) fun n r => rIs n r).2.length = n at q1
  refine ⟨_, by show r.s.drop r.at_ = _ ++ r.s.drop (rInts r m).1.at_; rw [e]; exact e1, ?_⟩
  show uintL n ++ flatI (thn (rCount r m) fun n r => rIs n r).2 = intsL (rInts r m).2 ∧ ((rInts r m).2.length : Int) ≤ m ∧ ∀ x ∈ (rInts r m).2, I64 x
  rw [e]
  exact ⟨by unfold intsL; rw [q1], by rw [q1]; exact p1, q2⟩
theorem fLot : Fw rLot (fun x l => l = lotL x ∧ x.i.length ≤ 12 ∧ I64 x.q) :=
  fMono (fEq (g := fun r => thn (rText r 12) fun s r => thn (rInt r) fun n r => (r, (⟨s, n⟩ : Lt))) (fThn (fText 12) fun s => fThn fInt fun n => fRet _) fun _ => rfl) fun x l h => by
    obtain ⟨s, l1, l2, rfl, ⟨rfl, p1⟩, n, l3, l4, rfl, ⟨rfl, p2⟩, rfl, rfl⟩ := h
    exact ⟨by simp [lotL], by simp only; omega, p2⟩
theorem fCut : Fw rCut (fun x l => l = cutL x ∧ I64 x.d ∧ I64 x.r ∧ I64 x.c) :=
  fMono (fEq (g := fun r => thn (rInt r) fun a r => thn (rInt r) fun b r => thn (rInt r) fun c r => (r, (⟨a, b, c⟩ : Ct))) (fThn fInt fun a => fThn fInt fun b => fThn fInt fun c => fRet _) fun _ => rfl) fun x l h => by
    obtain ⟨a, l1, l2, rfl, ⟨rfl, p1⟩, b, l3, l4, rfl, ⟨rfl, p2⟩, c, l5, l6, rfl, ⟨rfl, p3⟩, rfl, rfl⟩ := h
    exact ⟨by simp [cutL], p1, p2, p3⟩
theorem fLots (n : Nat) : Fw (rLots n) (fun xs l => xs.length = n ∧ l = flatM lotL xs ∧ ∀ x ∈ xs, x.i.length ≤ 12 ∧ I64 x.q) := by
  induction n with
  | zero => exact fMono (fRet []) fun x l h => by obtain ⟨rfl, rfl⟩ := h; exact ⟨rfl, rfl, fun x hx => (List.not_mem_nil hx).elim⟩
  | succ n ih =>
    intro r hr
    by_cases h0 : r.e = 0
    · have e : rLots (n + 1) r = thn (rLot r) fun x r => thn (rLots n r) fun k r => (r, x :: k) := by
        show (if r.e ≠ 0 then _ else _) = _
        rw [if_neg (by simpa using h0)]
        rfl
      rw [e]
      obtain ⟨h1, h2, h3, h4⟩ := (fThn fLot fun x => fThn ih fun k => fRet (x :: k)) r hr
      refine ⟨h1, h2, h3, fun he => ?_⟩
      obtain ⟨l, e1, x, l1, l2, rfl, ⟨rfl, p1⟩, ⟨xs, l3, l4, rfl, ⟨q1, rfl, q2⟩, q3, rfl⟩⟩ := h4 he
      refine ⟨_, e1, ?_⟩
      change (thn (rLot r) fun x r => thn (rLots n r) fun k r => (r, x :: k)).2 = x :: xs at q3
      rw [q3]
      refine ⟨by rw [List.length_cons, q1], by simp [flatM], fun y hy => ?_⟩
      rcases List.mem_cons.1 hy with rfl | hy
      · exact p1
      · exact q2 y hy
    · have e : rLots (n + 1) r = (r, []) := by unfold rLots; rw [if_pos h0]
      rw [e]
      exact ⟨hr, rfl, fun _ => rfl, fun he => absurd he h0⟩
theorem fCuts (n : Nat) : Fw (rCuts n) (fun xs l => xs.length = n ∧ l = flatM cutL xs ∧ ∀ x ∈ xs, I64 x.d ∧ I64 x.r ∧ I64 x.c) := by
  induction n with
  | zero => exact fMono (fRet []) fun x l h => by obtain ⟨rfl, rfl⟩ := h; exact ⟨rfl, rfl, fun x hx => (List.not_mem_nil hx).elim⟩
  | succ n ih =>
    intro r hr
    by_cases h0 : r.e = 0
    · have e : rCuts (n + 1) r = thn (rCut r) fun x r => thn (rCuts n r) fun k r => (r, x :: k) := by
        show (if r.e ≠ 0 then _ else _) = _
        rw [if_neg (by simpa using h0)]
        rfl
      rw [e]
      obtain ⟨h1, h2, h3, h4⟩ := (fThn fCut fun x => fThn ih fun k => fRet (x :: k)) r hr
      refine ⟨h1, h2, h3, fun he => ?_⟩
      obtain ⟨l, e1, x, l1, l2, rfl, ⟨rfl, p1⟩, ⟨xs, l3, l4, rfl, ⟨q1, rfl, q2⟩, q3, rfl⟩⟩ := h4 he
      refine ⟨_, e1, ?_⟩
      change (thn (rCut r) fun x r => thn (rCuts n r) fun k r => (r, x :: k)).2 = x :: xs at q3
      rw [q3]
      refine ⟨by rw [List.length_cons, q1], by simp [flatM], fun y hy => ?_⟩
      rcases List.mem_cons.1 hy with rfl | hy
      · exact p1
      · exact q2 y hy
    · have e : rCuts (n + 1) r = (r, []) := by unfold rCuts; rw [if_pos h0]
      rw [e]
      exact ⟨hr, rfl, fun _ => rfl, fun he => absurd he h0⟩
theorem fBk : Fw rBk (fun b l => l = bkL b ∧ (I64 b.id ∧ I64 b.ver ∧ I64 b.rat ∧ I64 b.least ∧ I64 b.most ∧ I64 b.iss ∧ I64 b.ass ∧ (∀ c ∈ b.cuts, I64 c.d ∧ I64 c.r ∧ I64 c.c) ∧ ∀ n ∈ b.bar, I64 n) ∧ b.cuts.length ≤ 64 ∧ b.bar.length ≤ 64 ∧ b.cur.length ≤ 12) :=
  fMono (fThn fInt fun i => fThn fInt fun v => fThn fInt fun t => fThn fInt fun l => fThn fInt fun m => fThn fInt fun s => fThn fInt fun x => fThn (fText 12) fun c => fThn (fCount 64) fun n => fThn (fCuts n) fun cs => fThn (fInts 64) fun b => fRet _) fun b l h => by
    obtain ⟨_, _, _, rfl, ⟨rfl, p1⟩, _, _, _, rfl, ⟨rfl, p2⟩, _, _, _, rfl, ⟨rfl, p3⟩, _, _, _, rfl, ⟨rfl, p4⟩, _, _, _, rfl, ⟨rfl, p5⟩, _, _, _, rfl, ⟨rfl, p6⟩, _, _, _, rfl, ⟨rfl, p7⟩, _, _, _, rfl, ⟨rfl, p8⟩, _, _, _, rfl, ⟨rfl, p9, _⟩, _, _, _, rfl, ⟨rfl, rfl, p10⟩, _, _, _, rfl, ⟨rfl, p11, p12⟩, rfl, rfl⟩ := h
    exact ⟨by simp [bkL], ⟨p1, p2, p3, p4, p5, p6, p7, p10, p12⟩, by simp only; omega, by simp only; omega, by simp only; omega⟩
theorem fQu : Fw rQu (fun q l => l = quL q ∧ I64 q.id ∧ I64 q.mem ∧ I64 q.side ∧ I64 q.bas ∧ I64 q.am ∧ I64 q.rate ∧ I64 q.st ∧ I64 q.en) :=
  fMono (fThn fInt fun i => fThn fInt fun v => fThn fInt fun t => fThn fInt fun l => fThn fInt fun m => fThn fInt fun s => fThn fInt fun x => fThn fInt fun y => fRet _) fun b l h => by
    obtain ⟨_, _, _, rfl, ⟨rfl, p1⟩, _, _, _, rfl, ⟨rfl, p2⟩, _, _, _, rfl, ⟨rfl, p3⟩, _, _, _, rfl, ⟨rfl, p4⟩, _, _, _, rfl, ⟨rfl, p5⟩, _, _, _, rfl, ⟨rfl, p6⟩, _, _, _, rfl, ⟨rfl, p7⟩, _, _, _, rfl, ⟨rfl, p8⟩, rfl, rfl⟩ := h
    exact ⟨by simp [quL], p1, p2, p3, p4, p5, p6, p7, p8⟩
end Go.Proofs.YtdmlgheajblcdaaGreat

/- layer 10, numbers: every kind; what is decoded was so encoded -/
namespace Go.Proofs.YtdmlgheajblcdaaGreat
open Go.RowKit
set_option linter.unusedVariables false
set_option linter.unusedSimpArgs false
theorem I64.z : I64 0 := ⟨by omega, by omega⟩
theorem I64.lit (n : Int) (h : -9223372036854775808 ≤ n) (h2 : n ≤ 9223372036854775807) : I64 n := ⟨h, h2⟩
theorem Bk.zwf : I64 Bk.z.id ∧ I64 Bk.z.ver ∧ I64 Bk.z.rat ∧ I64 Bk.z.least ∧ I64 Bk.z.most ∧ I64 Bk.z.iss ∧ I64 Bk.z.ass ∧ (∀ c ∈ Bk.z.cuts, I64 c.d ∧ I64 c.r ∧ I64 c.c) ∧ ∀ n ∈ Bk.z.bar, I64 n := ⟨I64.z, I64.z, I64.z, I64.z, I64.z, I64.z, I64.z, fun _ h => (List.not_mem_nil h).elim, fun _ h => (List.not_mem_nil h).elim⟩
theorem Qu.zwf : I64 Qu.z.id ∧ I64 Qu.z.mem ∧ I64 Qu.z.side ∧ I64 Qu.z.bas ∧ I64 Qu.z.am ∧ I64 Qu.z.rate ∧ I64 Qu.z.st ∧ I64 Qu.z.en := ⟨I64.z, I64.z, I64.z, I64.z, I64.z, I64.z, I64.z, I64.z⟩
theorem Lt.zwf : ∀ l ∈ ([] : List Lt), I64 l.q := fun _ h => (List.not_mem_nil h).elim
/-- a message that was read: of its kind, its bytes, and nothing else in it -/
def Rdm (k : Int) (m : Mg) (l : List UInt8) : Prop := m.k = k ∧ l = bodL m ∧ m.Wf ∧ plainM m = m
theorem fk1 : Fw (rdK 1) (Rdm 1) :=
  fMono (fEq (f := rdK 1) (fThn fInt fun x0 => fThn (fText 160) fun x1 => fRet ({ Mg.z with k := 1, mem := x0, name := x1 } : Mg)) fun _ => rfl) fun m l h => by
    obtain ⟨x0, _, _, rfl, ⟨rfl, p0⟩, x1, _, _, rfl, ⟨rfl, _⟩, rfl, rfl⟩ := h
    exact ⟨rfl, by simp [bodL, lotL, List.append_assoc], ⟨I64.lit 1 (by omega) (by omega), p0, ⟨I64.z, I64.z, I64.z⟩, Bk.zwf, Lt.zwf, I64.z, I64.z, Qu.zwf, I64.z, Lt.zwf, I64.z, I64.z⟩, rfl⟩
theorem fk2 : Fw (rdK 2) (Rdm 2) :=
  fMono (fEq (f := rdK 2) (fThn (fText 12) fun x0 => fThn fInt fun x1 => fThn fInt fun x2 => fThn fInt fun x3 => fThn (fText 12) fun x4 => fRet ({ Mg.z with k := 2, a := ⟨x0, x1, x2, x3, x4⟩ } : Mg)) fun _ => rfl) fun m l h => by
    obtain ⟨x0, _, _, rfl, ⟨rfl, _⟩, x1, _, _, rfl, ⟨rfl, p1⟩, x2, _, _, rfl, ⟨rfl, p2⟩, x3, _, _, rfl, ⟨rfl, p3⟩, x4, _, _, rfl, ⟨rfl, _⟩, rfl, rfl⟩ := h
    exact ⟨rfl, by simp [bodL, lotL, List.append_assoc], ⟨I64.lit 2 (by omega) (by omega), I64.z, ⟨p1, p2, p3⟩, Bk.zwf, Lt.zwf, I64.z, I64.z, Qu.zwf, I64.z, Lt.zwf, I64.z, I64.z⟩, rfl⟩
theorem fk3 : Fw (rdK 3) (Rdm 3) :=
  fMono (fEq (f := rdK 3) (fThn fBk fun x0 => fRet ({ Mg.z with k := 3, b := x0 } : Mg)) fun _ => rfl) fun m l h => by
    obtain ⟨x0, _, _, rfl, ⟨rfl, p0, _⟩, rfl, rfl⟩ := h
    exact ⟨rfl, by simp [bodL, lotL, List.append_assoc], ⟨I64.lit 3 (by omega) (by omega), I64.z, ⟨I64.z, I64.z, I64.z⟩, p0, Lt.zwf, I64.z, I64.z, Qu.zwf, I64.z, Lt.zwf, I64.z, I64.z⟩, rfl⟩
theorem fk4 : Fw (rdK 4) (Rdm 4) :=
  fMono (fEq (f := rdK 4) (fThn (fCount 64) fun x0 => fThn (fLots x0) fun x1 => fRet ({ Mg.z with k := 4, ps := x1 } : Mg)) fun _ => rfl) fun m l h => by
    obtain ⟨x0, _, _, rfl, ⟨rfl, _, _⟩, x1, _, _, rfl, ⟨rfl, rfl, p1⟩, rfl, rfl⟩ := h
    exact ⟨rfl, by simp [bodL, lotL, List.append_assoc], ⟨I64.lit 4 (by omega) (by omega), I64.z, ⟨I64.z, I64.z, I64.z⟩, Bk.zwf, fun l h => (p1 l h).2, I64.z, I64.z, Qu.zwf, I64.z, Lt.zwf, I64.z, I64.z⟩, rfl⟩
theorem fk5 : Fw (rdK 5) (Rdm 5) :=
  fMono (fEq (f := rdK 5) (fThn fInt fun x0 => fRet ({ Mg.z with k := 5, day := x0 } : Mg)) fun _ => rfl) fun m l h => by
    obtain ⟨x0, _, _, rfl, ⟨rfl, p0⟩, rfl, rfl⟩ := h
    exact ⟨rfl, by simp [bodL, lotL, List.append_assoc], ⟨I64.lit 5 (by omega) (by omega), I64.z, ⟨I64.z, I64.z, I64.z⟩, Bk.zwf, Lt.zwf, p0, I64.z, Qu.zwf, I64.z, Lt.zwf, I64.z, I64.z⟩, rfl⟩
theorem fk6 : Fw (rdK 6) (Rdm 6) :=
  fMono (fEq (f := rdK 6) (fThn fInt fun x0 => fThn fInt fun x1 => fThn (fText 12) fun x2 => fRet ({ Mg.z with k := 6, mem := x0, t := x2, n := x1 } : Mg)) fun _ => rfl) fun m l h => by
    obtain ⟨x0, _, _, rfl, ⟨rfl, p0⟩, x1, _, _, rfl, ⟨rfl, p1⟩, x2, _, _, rfl, ⟨rfl, _⟩, rfl, rfl⟩ := h
    exact ⟨rfl, by simp [bodL, lotL, List.append_assoc], ⟨I64.lit 6 (by omega) (by omega), p0, ⟨I64.z, I64.z, I64.z⟩, Bk.zwf, Lt.zwf, I64.z, p1, Qu.zwf, I64.z, Lt.zwf, I64.z, I64.z⟩, rfl⟩
theorem fk7 : Fw (rdK 7) (Rdm 7) :=
  fMono (fEq (f := rdK 7) (fThn fInt fun x0 => fThn fInt fun x1 => fThn (fText 12) fun x2 => fRet ({ Mg.z with k := 7, mem := x0, t := x2, n := x1 } : Mg)) fun _ => rfl) fun m l h => by
    obtain ⟨x0, _, _, rfl, ⟨rfl, p0⟩, x1, _, _, rfl, ⟨rfl, p1⟩, x2, _, _, rfl, ⟨rfl, _⟩, rfl, rfl⟩ := h
    exact ⟨rfl, by simp [bodL, lotL, List.append_assoc], ⟨I64.lit 7 (by omega) (by omega), p0, ⟨I64.z, I64.z, I64.z⟩, Bk.zwf, Lt.zwf, I64.z, p1, Qu.zwf, I64.z, Lt.zwf, I64.z, I64.z⟩, rfl⟩
theorem fk8 : Fw (rdK 8) (Rdm 8) :=
  fMono (fEq (f := rdK 8) (fThn fQu fun x0 => fRet ({ Mg.z with k := 8, q := x0 } : Mg)) fun _ => rfl) fun m l h => by
    obtain ⟨x0, _, _, rfl, ⟨rfl, p0⟩, rfl, rfl⟩ := h
    exact ⟨rfl, by simp [bodL, lotL, List.append_assoc], ⟨I64.lit 8 (by omega) (by omega), I64.z, ⟨I64.z, I64.z, I64.z⟩, Bk.zwf, Lt.zwf, I64.z, I64.z, p0, I64.z, Lt.zwf, I64.z, I64.z⟩, rfl⟩
theorem fk9 : Fw (rdK 9) (Rdm 9) :=
  fMono (fEq (f := rdK 9) (fThn fInt fun x0 => fThn fInt fun x1 => fRet ({ Mg.z with k := 9, mem := x0, n := x1 } : Mg)) fun _ => rfl) fun m l h => by
    obtain ⟨x0, _, _, rfl, ⟨rfl, p0⟩, x1, _, _, rfl, ⟨rfl, p1⟩, rfl, rfl⟩ := h
    exact ⟨rfl, by simp [bodL, lotL, List.append_assoc], ⟨I64.lit 9 (by omega) (by omega), p0, ⟨I64.z, I64.z, I64.z⟩, Bk.zwf, Lt.zwf, I64.z, p1, Qu.zwf, I64.z, Lt.zwf, I64.z, I64.z⟩, rfl⟩
theorem fk10 : Fw (rdK 10) (Rdm 10) :=
  fMono (fEq (f := rdK 10) (fThn fInt fun x0 => fThn fInt fun x1 => fThn fInt fun x2 => fRet ({ Mg.z with k := 10, mem := x0, tr := x1, day := x2 } : Mg)) fun _ => rfl) fun m l h => by
    obtain ⟨x0, _, _, rfl, ⟨rfl, p0⟩, x1, _, _, rfl, ⟨rfl, p1⟩, x2, _, _, rfl, ⟨rfl, p2⟩, rfl, rfl⟩ := h
    exact ⟨rfl, by simp [bodL, lotL, List.append_assoc], ⟨I64.lit 10 (by omega) (by omega), p0, ⟨I64.z, I64.z, I64.z⟩, Bk.zwf, Lt.zwf, p2, I64.z, Qu.zwf, I64.z, Lt.zwf, p1, I64.z⟩, rfl⟩
theorem fk11 : Fw (rdK 11) (Rdm 11) :=
  fMono (fEq (f := rdK 11) (fThn fInt fun x0 => fThn fInt fun x1 => fThn fLot fun x2 => fThn (fCount 64) fun x3 => fThn (fLots x3) fun x4 => fRet ({ Mg.z with k := 11, mem := x0, tr := x1, out := x2, ins := x4 } : Mg)) fun _ => rfl) fun m l h => by
    obtain ⟨x0, _, _, rfl, ⟨rfl, p0⟩, x1, _, _, rfl, ⟨rfl, p1⟩, x2, _, _, rfl, ⟨rfl, _, p2⟩, x3, _, _, rfl, ⟨rfl, _, _⟩, x4, _, _, rfl, ⟨rfl, rfl, p4⟩, rfl, rfl⟩ := h
    exact ⟨rfl, by simp [bodL, lotL, List.append_assoc], ⟨I64.lit 11 (by omega) (by omega), p0, ⟨I64.z, I64.z, I64.z⟩, Bk.zwf, Lt.zwf, I64.z, I64.z, Qu.zwf, p2, fun l h => (p4 l h).2, p1, I64.z⟩, rfl⟩
theorem fk12 : Fw (rdK 12) (Rdm 12) :=
  fMono (fEq (f := rdK 12) (fThn fInt fun x0 => fThn fInt fun x1 => fThn fBool fun x2 => fRet ({ Mg.z with k := 12, mem := x0, day := x1, done := x2 } : Mg)) fun _ => rfl) fun m l h => by
    obtain ⟨x0, _, _, rfl, ⟨rfl, p0⟩, x1, _, _, rfl, ⟨rfl, p1⟩, x2, _, _, rfl, rfl, rfl, rfl⟩ := h
    exact ⟨rfl, by simp [bodL, lotL, List.append_assoc], ⟨I64.lit 12 (by omega) (by omega), p0, ⟨I64.z, I64.z, I64.z⟩, Bk.zwf, Lt.zwf, p1, I64.z, Qu.zwf, I64.z, Lt.zwf, I64.z, I64.z⟩, rfl⟩
theorem fk13 : Fw (rdK 13) (Rdm 13) :=
  fMono (fEq (f := rdK 13) (fThn fInt fun x0 => fRet ({ Mg.z with k := 13, mem := x0 } : Mg)) fun _ => rfl) fun m l h => by
    obtain ⟨x0, _, _, rfl, ⟨rfl, p0⟩, rfl, rfl⟩ := h
    exact ⟨rfl, by simp [bodL, lotL, List.append_assoc], ⟨I64.lit 13 (by omega) (by omega), p0, ⟨I64.z, I64.z, I64.z⟩, Bk.zwf, Lt.zwf, I64.z, I64.z, Qu.zwf, I64.z, Lt.zwf, I64.z, I64.z⟩, rfl⟩
theorem fk14 : Fw (rdK 14) (Rdm 14) :=
  fMono (fEq (f := rdK 14) (fThn fInt fun x0 => fThn fInt fun x1 => fRet ({ Mg.z with k := 14, mem := x0, n := x1 } : Mg)) fun _ => rfl) fun m l h => by
    obtain ⟨x0, _, _, rfl, ⟨rfl, p0⟩, x1, _, _, rfl, ⟨rfl, p1⟩, rfl, rfl⟩ := h
    exact ⟨rfl, by simp [bodL, lotL, List.append_assoc], ⟨I64.lit 14 (by omega) (by omega), p0, ⟨I64.z, I64.z, I64.z⟩, Bk.zwf, Lt.zwf, I64.z, p1, Qu.zwf, I64.z, Lt.zwf, I64.z, I64.z⟩, rfl⟩
theorem fk15 : Fw (rdK 15) (Rdm 15) :=
  fMono (fEq (f := rdK 15) (fThn fInt fun x0 => fThn fInt fun x1 => fThn fInt fun x2 => fRet ({ Mg.z with k := 15, tr := x0, day := x1, rate := x2 } : Mg)) fun _ => rfl) fun m l h => by
    obtain ⟨x0, _, _, rfl, ⟨rfl, p0⟩, x1, _, _, rfl, ⟨rfl, p1⟩, x2, _, _, rfl, ⟨rfl, p2⟩, rfl, rfl⟩ := h
    exact ⟨rfl, by simp [bodL, lotL, List.append_assoc], ⟨I64.lit 15 (by omega) (by omega), I64.z, ⟨I64.z, I64.z, I64.z⟩, Bk.zwf, Lt.zwf, p1, I64.z, Qu.zwf, I64.z, Lt.zwf, p0, p2⟩, rfl⟩
theorem fBod {k : Int} (h : inn k 1 15 = true) : Fw (rdK k) (Rdm k) := by
  have h1 := inn_of h
  have hk : k = 1 ∨ k = 2 ∨ k = 3 ∨ k = 4 ∨ k = 5 ∨ k = 6 ∨ k = 7 ∨ k = 8 ∨ k = 9 ∨ k = 10 ∨ k = 11 ∨ k = 12 ∨ k = 13 ∨ k = 14 ∨ k = 15 := by omega
  rcases hk with rfl | rfl | rfl | rfl | rfl | rfl | rfl | rfl | rfl | rfl | rfl | rfl | rfl | rfl | rfl
  · exact fk1
  · exact fk2
  · exact fk3
  · exact fk4
  · exact fk5
  · exact fk6
  · exact fk7
  · exact fk8
  · exact fk9
  · exact fk10
  · exact fk11
  · exact fk12
  · exact fk13
  · exact fk14
  · exact fk15
/-- P10.6, the other way: what is decoded was so encoded -/
theorem enc_dec {C : Cks} {s : List UInt8} {m : Mg} {n : Nat} (h : decN C s = (m, n, 0)) : n = s.length ∧ encL m = s ∧ chkM C m = 0 ∧ m.Wf ∧ plainM m = m ∧ inn m.k 1 15 = true := by
  have hok : (Rd.mk s 0 0).Ok := Nat.zero_le _
  obtain ⟨a1, a2, a3, a4⟩ := fInt ⟨s, 0, 0⟩ hok
  unfold decN at h
  by_cases h0 : (rInt ⟨s, 0, 0⟩).1.e ≠ 0
  · rw [if_pos h0] at h
    have := congrArg (fun x => x.2.2) h
    exact absurd this h0
  rw [if_neg h0] at h
  have h0 : (rInt ⟨s, 0, 0⟩).1.e = 0 := by simpa using h0
  cases hin : inn (rInt ⟨s, 0, 0⟩).2 1 15 with
  | false =>
    rw [hin, if_pos (by rfl)] at h
    have : (17 : Nat) = 0 := congrArg (fun x => x.2.2) h
    omega
  | true =>
    rw [hin, if_neg (by simp)] at h
    obtain ⟨l1, e1, p1, p2⟩ := a4 h0
    obtain ⟨b1, b2, b3, b4⟩ := fBod hin (rInt ⟨s, 0, 0⟩).1 a1
    generalize (rInt ⟨s, 0, 0⟩).2 = k at *
    generalize (rInt ⟨s, 0, 0⟩).1 = r1 at *
    generalize (rdK k r1).2 = m2 at *
    generalize (rdK k r1).1 = r2 at *
    by_cases h2 : (rEnd r2).1.e ≠ 0
    · rw [if_pos h2] at h
      have := congrArg (fun x => x.2.2) h
      exact absurd this h2
    rw [if_neg h2] at h
    have h2 : (rEnd r2).1.e = 0 := by simpa using h2
    have hr2 : r2.e = 0 := by
      apply Classical.byContradiction
      intro hn
      rw [rEnd_bad hn] at h2
      exact hn h2
    have hat : ¬ r2.at_ < r2.s.length := by
      intro hl
      unfold rEnd at h2
      rw [if_pos hl] at h2
      simp [Rd.fl, hr2] at h2
    by_cases h3 : chkM C m2 ≠ 0
    · rw [if_pos h3] at h
      have := congrArg (fun x => x.2.2) h
      exact absurd this h3
    rw [if_neg h3] at h
    have h3 : chkM C m2 = 0 := by simpa using h3
    have hm : m2 = m := congrArg (fun x => x.1) h
    have hn : s.length = n := congrArg (fun x => x.2.1) h
    subst hm
    obtain ⟨l2, e2, q1, q2, q3, q4⟩ := b4 hr2
    have ee : (s.drop 0) = l1 ++ (l2 ++ []) := by
      change s.drop 0 = l1 ++ s.drop r1.at_ at e1
      rw [e1]
      have hs : r1.s = s := a2
      rw [hs] at e2
      rw [e2]
      have hd : s.drop r2.at_ = [] := List.drop_of_length_le (by have : r2.s = s := b2.trans hs; rw [this] at hat; omega)
      rw [hd]
    refine ⟨hn.symm, ?_, h3, q3, q4, by rw [q1]; exact hin⟩
    unfold encL
    rw [q1, ← q2, ← p1]
    simpa using ee.symm
end Go.Proofs.YtdmlgheajblcdaaGreat

/- Layer 10: the small tests of the program and of the reference. -/
namespace Go.Proofs.YtdmlgheajblcdaaGreat
open Go.RowKit
set_option linter.unusedVariables false
set_option linter.unusedSimpArgs false
set_option maxRecDepth 20000
theorem inn_lo {n a b : Int} (h : ¬ a ≤ n) : inn n a b = false := by
  unfold inn; rw [decide_eq_false h]; rfl
theorem inn_hi {n a b : Int} (h : a ≤ n) : inn n a b = decide (n ≤ b) := by
  unfold inn; rw [decide_eq_true h]; rfl
theorem xwithin (n a b : Int) (g : Bool) (h : inn n a b = g) (w : World) : Calls Tryz.prog 39 #[.int .i64 n, .int .i64 a, .int .i64 b] w (BP g w) := by
  by_cases h0 : a ≤ n
  · have H : Hid (decide (n ≤ b) = g) := by unfold Hid; rw [← h, inn_hi h0]
    clear h
    go_enter Tryz.func39, Tryz.ntmps39
    go_wp2_with fail
    go_ret
    exact BP.mk H.out
  · have H : Hid (false = g) := by unfold Hid; rw [← h, inn_lo h0]
    clear h
    go_enter Tryz.func39, Tryz.ntmps39
    go_wp2_with fail
    go_ret
    exact BP.mk H.out
theorem rin (n a b : Int) (g : Bool) (h : inn n a b = g) (w : World) : Calls Tryz.prog 45 #[.int .i64 n, .int .i64 a, .int .i64 b] w (BP g w) := by
  by_cases h0 : a ≤ n
  · have H : Hid (decide (n ≤ b) = g) := by unfold Hid; rw [← h, inn_hi h0]
    clear h
    go_enter Tryz.func45, Tryz.ntmps45
    go_wp2_with fail
    go_ret
    exact BP.mk H.out
  · have H : Hid (false = g) := by unfold Hid; rw [← h, inn_lo h0]
    clear h
    go_enter Tryz.func45, Tryz.ntmps45
    go_wp2_with fail
    go_ret
    exact BP.mk H.out
theorem xmember (n : Int) (g : Bool) (h : inn n 1 32 = g) (w : World) : Calls Tryz.prog 140 #[.int .i64 n] w (BP g w) := by
  go_enter Tryz.func140, Tryz.ntmps140
  go_wp2_with (go_at_call 39; refine (xwithin _ _ _ g h _).mono ?_; rintro e w2 ⟨rfl, rfl⟩)
  go_ret
  exact BP.mk rfl
theorem xamount (n : Int) (g : Bool) (h : inn n 1 1125899906842624 = g) (w : World) : Calls Tryz.prog 141 #[.int .i64 n] w (BP g w) := by
  go_enter Tryz.func141, Tryz.ntmps141
  go_wp2_with (go_at_call 39; refine (xwithin _ _ _ g h _).mono ?_; rintro e w2 ⟨rfl, rfl⟩)
  go_ret
  exact BP.mk rfl
theorem xnumber (n : Int) (g : Bool) (h : inn n 1 1125899906842624 = g) (w : World) : Calls Tryz.prog 40 #[.int .i64 n] w (BP g w) := by
  go_enter Tryz.func40, Tryz.ntmps40
  go_wp2_with (go_at_call 39; refine (xwithin _ _ _ g h _).mono ?_; rintro e w2 ⟨rfl, rfl⟩)
  go_ret
  exact BP.mk rfl
theorem xrate (n : Int) (g : Bool) (h : inn n (-1000000) 1000000 = g) (w : World) : Calls Tryz.prog 142 #[.int .i64 n] w (BP g w) := by
  go_enter Tryz.func142, Tryz.ntmps142
  go_wp2_with (go_at_call 39; refine (xwithin _ _ _ g h _).mono ?_; rintro e w2 ⟨rfl, rfl⟩)
  go_ret
  exact BP.mk rfl
theorem xrating (n : Int) (g : Bool) (h : inn n 0 20 = g) (w : World) : Calls Tryz.prog 41 #[.int .i64 n] w (BP g w) := by
  go_enter Tryz.func41, Tryz.ntmps41
  go_wp2_with (go_at_call 39; refine (xwithin _ _ _ g h _).mono ?_; rintro e w2 ⟨rfl, rfl⟩)
  go_ret
  exact BP.mk rfl
theorem xgood (n : Int) (g : Bool) (h : inn n 0 200000 = g) (w : World) : Calls Tryz.prog 143 #[.int .i64 n] w (BP g w) := by
  by_cases h0 : (0 : Int) ≤ n
  · have H : Hid (decide (n ≤ 200000) = g) := by unfold Hid; rw [← h, inn_hi h0]
    clear h
    go_enter Tryz.func143, Tryz.ntmps143
    go_wp2_with fail
    go_ret
    exact BP.mk H.out
  · have H : Hid (false = g) := by unfold Hid; rw [← h, inn_lo h0]
    clear h
    go_enter Tryz.func143, Tryz.ntmps143
    go_wp2_with fail
    go_ret
    exact BP.mk H.out
theorem rgood (n : Int) (g : Bool) (h : inn n 0 200000 = g) (w : World) : Calls Tryz.prog 71 #[.int .i64 n] w (BP g w) := by
  by_cases h0 : (0 : Int) ≤ n
  · have H : Hid (decide (n ≤ 200000) = g) := by unfold Hid; rw [← h, inn_hi h0]
    clear h
    go_enter Tryz.func71, Tryz.ntmps71
    go_wp2_with fail
    go_ret
    exact BP.mk H.out
  · have H : Hid (false = g) := by unfold Hid; rw [← h, inn_lo h0]
    clear h
    go_enter Tryz.func71, Tryz.ntmps71
    go_wp2_with fail
    go_ret
    exact BP.mk H.out
theorem rmember (n : Int) (g : Bool) (h : inn n 1 32 = g) (w : World) : Calls Tryz.prog 35 #[.int .i64 n] w (BP g w) := by
  by_cases h0 : (1 : Int) ≤ n
  · have H : Hid (decide (n ≤ 32) = g) := by unfold Hid; rw [← h, inn_hi h0]
    clear h
    go_enter Tryz.func35, Tryz.ntmps35
    go_wp2_with fail
    go_ret
    exact BP.mk H.out
  · have H : Hid (false = g) := by unfold Hid; rw [← h, inn_lo h0]
    clear h
    go_enter Tryz.func35, Tryz.ntmps35
    go_wp2_with fail
    go_ret
    exact BP.mk H.out
theorem ramount (n : Int) (g : Bool) (h : inn n 1 1125899906842624 = g) (w : World) : Calls Tryz.prog 46 #[.int .i64 n] w (BP g w) := by
  by_cases h0 : (1 : Int) ≤ n
  · have H : Hid (decide (n ≤ 1125899906842624) = g) := by unfold Hid; rw [← h, inn_hi h0]
    clear h
    go_enter Tryz.func46, Tryz.ntmps46
    go_wp2_with fail
    go_ret
    exact BP.mk H.out
  · have H : Hid (false = g) := by unfold Hid; rw [← h, inn_lo h0]
    clear h
    go_enter Tryz.func46, Tryz.ntmps46
    go_wp2_with fail
    go_ret
    exact BP.mk H.out
theorem xday (n : Int) (g : Bool) (h : inn n 0 200000 = g) (w : World) : Calls Tryz.prog 163 #[.int .i64 n] w (NP .i64 (if g then (0 : Nat) else 10 : Nat) w) := by
  cases g
  · go_enter Tryz.func163, Tryz.ntmps163
    go_wp2_with (go_at_call 143; refine (xgood _ _ h _).mono ?_; rintro e w2 ⟨rfl, rfl⟩)
    go_ret
    exact NP.mk rfl
  · go_enter Tryz.func163, Tryz.ntmps163
    go_wp2_with (go_at_call 143; refine (xgood _ _ h _).mono ?_; rintro e w2 ⟨rfl, rfl⟩)
    go_ret
    exact NP.mk rfl
theorem rday (n : Int) (g : Bool) (h : inn n 0 200000 = g) (w : World) : Calls Tryz.prog 33 #[.int .i64 n] w (NP .i64 (if g then (0 : Nat) else 10 : Nat) w) := by
  cases g
  · go_enter Tryz.func33, Tryz.ntmps33
    go_wp2_with (go_at_call 71; refine (rgood _ _ h _).mono ?_; rintro e w2 ⟨rfl, rfl⟩)
    go_ret
    exact NP.mk rfl
  · go_enter Tryz.func33, Tryz.ntmps33
    go_wp2_with (go_at_call 71; refine (rgood _ _ h _).mono ?_; rintro e w2 ⟨rfl, rfl⟩)
    go_ret
    exact NP.mk rfl
theorem neg_min : IntKind.i64.wrap (-(-9223372036854775808)) = -9223372036854775808 := by decide
theorem xchange (n : Int) (hn : I64 n) (g : Bool) (h : sgn n = g) (w : World) : Calls Tryz.prog 188 #[.int .i64 n] w (BP g w) := by
  unfold sgn at h
  by_cases h1 : amt n = true
  · have H : Hid (true = g) := by unfold Hid; rw [← h, h1]; rfl
    clear h
    go_enter Tryz.func188, Tryz.ntmps188
    go_wp2_with (go_at_call 141; refine (xamount _ _ h1 _).mono ?_; rintro e w2 ⟨rfl, rfl⟩)
    go_ret
    exact BP.mk H.out
  · have h1f : amt n = false := by simpa using h1
    have h2 : amt (wrap64 (-n)) = g := by
      rw [← h, h1f, show wrap64 (-n) = IntKind.i64.wrap (-n) from by unfold wrap64; rw [IntKind.wrap_i64]]
      by_cases hm : n = -9223372036854775808
      · subst hm; decide
      · have hr : IntKind.i64.wrap (-n) = -n := by obtain ⟨ha, hb⟩ := hn; rw [IntKind.wrap_i64]; omega
        rw [hr]
        unfold amt inn
        rw [Bool.eq_iff_iff]
        simp
        omega
    clear h
    go_enter Tryz.func188, Tryz.ntmps188
    go_wp2_with (go_at_call 141; first | (refine (xamount _ _ h1f _).mono ?_; rintro e w2 ⟨rfl, rfl⟩) | (refine (xamount _ _ h2 _).mono ?_; rintro e w2 ⟨rfl, rfl⟩))
    go_ret
    exact BP.mk rfl
end Go.Proofs.YtdmlgheajblcdaaGreat

/- Layer 10: the checks of the layers below, as this layer's letters. -/
namespace Go.Proofs.YtdmlgheajblcdaaGreat
open Go.RowKit
set_option linter.unusedVariables false
set_option linter.unusedSimpArgs false
set_option maxRecDepth 20000
theorem toL (l : List UInt8) : (⟨l.toArray⟩ : ByteArray).toList = l := by
  have : (⟨l.toArray⟩ : ByteArray).toList = (⟨l.toArray⟩ : ByteArray).data.toList := ByteArray.toList_eq _
  rw [this]
def C0 : Cks := { nm := fun s => (N4.chk s).2, is := N5.chk, cu := fun s => decide (N5.Cur s), ast := fun a => N5.astE (N5.chk a.i) (N5.Cur a.cur) a.iss a.rat a.mat, gd := fun n => inn n 0 200000, le := fun a b => Op.bytesLess a b || a == b }
theorem xcur (l : List UInt8) (g : Bool) (h : C0.cu l = g) (w : World) : Calls Tryz.prog 42 #[.string ⟨l.toArray⟩] w (BP g w) := by
  refine (N5.xCur ⟨l.toArray⟩ w).mono ?_
  rintro e w2 ⟨rfl, rfl⟩
  have h1 : decide (N5.Cur l) = g := h
  exact ⟨by simp only [toL]; rw [h1], rfl⟩
theorem rcur (l : List UInt8) (g : Bool) (h : C0.cu l = g) (w : World) : Calls Tryz.prog 34 #[.string ⟨l.toArray⟩] w (BP g w) := by
  refine (N5.rCur ⟨l.toArray⟩ w).mono ?_
  rintro e w2 ⟨rfl, rfl⟩
  have h1 : decide (N5.Cur l) = g := h
  exact ⟨by simp only [toL]; rw [h1], rfl⟩
theorem xisin (l : List UInt8) (hs : l.length ≤ 9223372036854775807) (g : Nat) (h : C0.is l = g) (w : World) : Calls Tryz.prog 151 #[.string ⟨l.toArray⟩] w (NP .i64 g w) := by
  refine (N5.xCheck ⟨l.toArray⟩ hs w).mono ?_
  rintro e w2 ⟨rfl, rfl⟩
  subst h
  exact ⟨rfl, rfl⟩
/-- a number, and memory of its own -/
def NB (n : Int) (w : World) (e : Ending) (w' : World) : Prop := e = .returned (.int .i64 n) ∧ Hid (Below w.heap.size w w')
theorem NB.mk {n m : Int} {w w' : World} (h : m = n) (hb : Below w.heap.size w w') : NB n w (.returned (.int .i64 m)) w' := ⟨by rw [h], hb⟩
theorem risin (l : List UInt8) (g : Nat) (h : C0.is l = g) (w : World) : Calls Tryz.prog 70 #[.string ⟨l.toArray⟩] w (NB g w) := by
  refine (N5.rCheck ⟨l.toArray⟩ w).mono ?_
  rintro e w2 ⟨rfl, hb⟩
  subst h
  exact ⟨rfl, hb⟩
def TB (a b : Nat) (w : World) (e : Ending) (w' : World) : Prop := e = .returned (.tuple #[.int .i64 a, .int .i64 b]) ∧ Hid (Below w.heap.size w w')
theorem xname (l : List UInt8) (hs : l.length ≤ 9223372036854775807) (g : Nat) (h : C0.nm l = g) (w : World) : Calls Tryz.prog 167 #[.string ⟨l.toArray⟩] w (TB (N4.chk l).1 g w) := by
  refine (N4.xcheck ⟨l.toArray⟩ hs w).mono ?_
  rintro e w2 ⟨rfl, hb⟩
  subst h
  exact ⟨rfl, hb⟩
theorem rname (l : List UInt8) (hs : l.length ≤ 9223372036854775807) (g : Nat) (h : C0.nm l = g) (w : World) : Calls Tryz.prog 72 #[.string ⟨l.toArray⟩] w (TB (N4.chk l).1 g w) := by
  refine (N4.rcheck ⟨l.toArray⟩ hs w).mono ?_
  rintro e w2 ⟨rfl, hb⟩
  subst h
  exact ⟨rfl, hb⟩
theorem xasset (a : Ast) (hs : a.i.length ≤ 9223372036854775807) (g : Nat) (h : C0.ast a = g) (w : World) : Calls Tryz.prog 176 #[.agg #[.string ⟨a.i.toArray⟩, .int .i64 a.iss, .int .i64 a.rat, .int .i64 a.mat, .string ⟨a.cur.toArray⟩]] w (NB g w) := by
  refine (N5.xAsset ⟨a.i.toArray⟩ ⟨a.cur.toArray⟩ a.iss a.rat a.mat hs w).mono ?_
  rintro e w2 ⟨rfl, hb⟩
  subst h
  exact ⟨by simp only [toL]; rfl, hb⟩
theorem rasset (a : Ast) (g : Nat) (h : C0.ast a = g) (w : World) : Calls Tryz.prog 31 #[.agg #[.string ⟨a.i.toArray⟩, .int .i64 a.iss, .int .i64 a.rat, .int .i64 a.mat, .string ⟨a.cur.toArray⟩]] w (NB g w) := by
  refine (N5.rAsset ⟨a.i.toArray⟩ ⟨a.cur.toArray⟩ a.iss a.rat a.mat w).mono ?_
  rintro e w2 ⟨rfl, hb⟩
  subst h
  exact ⟨by simp only [toL]; rfl, hb⟩
theorem C0_ok : C0.Ok where
  nm := fun s h => by
    have h1 : (N4.chk s).2 = 0 := h
    unfold N4.chk at h1
    split at h1
    · cases h1
    · omega
  is := fun s h => by
    have h1 : N5.chk s = 0 := h
    have h2 := N5.shp_iff.1 (N5.chk_ok.1 h1).1
    omega
  cu := fun s h => by
    have h1 : N5.Cur s := of_decide_eq_true h
    rcases h1 with h | h | h | h | h | h | h | h <;> (rw [h]; decide)
  ast := fun a h => by
    have h1 : N5.astE (N5.chk a.i) (N5.Cur a.cur) a.iss a.rat a.mat = 0 := h
    unfold N5.astE at h1
    split at h1
    · omega
    · rename_i h2
      split at h1
      · cases h1
      · rename_i h3
        have h4 : N5.chk a.i = 0 := by omega
        have h5 := N5.shp_iff.1 (N5.chk_ok.1 h4).1
        have h6 : N5.Cur a.cur := Classical.not_not.1 h3
        refine ⟨by omega, ?_⟩
        rcases h6 with h | h | h | h | h | h | h | h <;> (rw [h]; decide)
end Go.Proofs.YtdmlgheajblcdaaGreat
