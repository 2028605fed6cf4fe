/- layer 10, numbers: messages, what is wrong with them, their bytes -/
import Derived.Test.YtdmlgheajblcdaaGreatNB
import Derived.WalkKit
namespace Go.Proofs.YtdmlgheajblcdaaGreat
open Go.RowKit
set_option linter.unusedVariables false
set_option linter.unusedSimpArgs false
structure Lt where
  i : List UInt8
  q : Int
structure Ct where
  d : Int
  r : Int
  c : Int
structure Ast where
  i : List UInt8
  iss : Int
  rat : Int
  mat : Int
  cur : List UInt8
structure Bk where
  id : Int
  ver : Int
  cur : List UInt8
  rat : Int
  least : Int
  most : Int
  cuts : List Ct
  iss : Int
  ass : Int
  bar : List Int
structure Qu where
  id : Int
  mem : Int
  side : Int
  bas : Int
  am : Int
  rate : Int
  st : Int
  en : Int
structure Mg where
  k : Int
  mem : Int
  name : List UInt8
  a : Ast
  b : Bk
  ps : List Lt
  day : Int
  t : List UInt8
  n : Int
  q : Qu
  out : Lt
  ins : List Lt
  tr : Int
  done : Bool
  rate : Int
def Lt.z : Lt := ⟨[], 0⟩
def Ast.z : Ast := ⟨[], 0, 0, 0, []⟩
def Bk.z : Bk := ⟨0, 0, [], 0, 0, 0, [], 0, 0, []⟩
def Qu.z : Qu := ⟨0, 0, 0, 0, 0, 0, 0, 0⟩
def Mg.z : Mg := ⟨0, 0, [], Ast.z, Bk.z, [], 0, [], 0, Qu.z, Lt.z, [], 0, false, 0⟩
/-- the checks of the layers below: a name's error, a number's, a currency, a security's error, a day, the order of texts -/
structure Cks where
  nm : List UInt8 → Nat
  is : List UInt8 → Nat
  cu : List UInt8 → Bool
  ast : Ast → Nat
  gd : Int → Bool
  le : List UInt8 → List UInt8 → Bool
/-- what is right is short -/
structure Cks.Ok (C : Cks) : Prop where
  nm : ∀ s, C.nm s = 0 → s.length ≤ 160
  is : ∀ s, C.is s = 0 → s.length ≤ 12
  cu : ∀ s, C.cu s = true → s.length ≤ 12
  ast : ∀ a, C.ast a = 0 → a.i.length ≤ 12 ∧ a.cur.length ≤ 12
def inn (n a b : Int) : Bool := decide (a ≤ n) && decide (n ≤ b)
def amt (n : Int) : Bool := inn n 1 1125899906842624
def mbr (n : Int) : Bool := inn n 1 32
def sgn (n : Int) : Bool := amt n || (decide (n < 0) && decide (-1125899906842624 ≤ n))
def dayE (C : Cks) (n : Int) : Nat := if C.gd n then 0 else 10
def lotE (C : Cks) (l : Lt) : Nat := if amt l.q then C.is l.i else 1
def lotsE (C : Cks) : List Lt → Nat
  | [] => 0
  | l :: r => if lotE C l = 0 then lotsE C r else lotE C l
def cutB (c : Ct) : Bool := inn c.d 0 200000 && (inn c.r 0 20 && inn c.c 0 999999)
def baGo (p : Option Int) (n : Int) : Bool := match p with
  | none => true
  | some m => decide (m < n)
/-- above the one ahead, from p on (none: the first one) -/
def barB : Option Int → List Int → Bool
  | _, [] => true
  | p, n :: l => inn n 0 9999 && (baGo p n && barB (some n) l)
def bkE (C : Cks) (b : Bk) : Nat :=
  if !(inn b.id 1 64 && (amt b.ver && (inn b.rat 0 20 && (inn b.iss 0 1000000 && (inn b.ass 0 1000000 && (decide (1 ≤ b.cuts.length) && (decide (b.cuts.length ≤ 64) && decide (b.bar.length ≤ 64)))))))) then 1
  else if !(decide (0 ≤ b.least) && inn b.most b.least 200000) then 10
  else if !C.cu b.cur then 11
  else if !(b.cuts.all cutB) then 1
  else if !(barB none b.bar) then 1 else 0
def quE (C : Cks) (q : Qu) : Nat :=
  if !(amt q.id && (inn q.side 1 2 && (inn q.bas 1 64 && (amt q.am && inn q.rate (-1000000) 1000000)))) then 1
  else if !(C.gd q.st && (decide (q.en = 0) || (C.gd q.en && inn (q.en - q.st) 1 3660))) then 10 else 0
def prGo (C : Cks) (p : Option (List UInt8)) (i : List UInt8) : Bool := match p with
  | none => true
  | some m => !C.le i m
/-- prices, from the one ahead on -/
def prsE (C : Cks) : Option (List UInt8) → List Lt → Nat
  | _, [] => 0
  | p, l :: r => if C.is l.i ≠ 0 then C.is l.i else if !(inn l.q 1 4294967296 && prGo C p l.i) then 31 else prsE C (some l.i) r
def prE (C : Cks) (l : List Lt) : Nat := if l.length = 0 ∨ 64 < l.length then 2 else prsE C none l
/-- P10.3 -/
def chkM (C : Cks) (m : Mg) : Nat :=
  if m.k = 1 then (if mbr m.mem then C.nm m.name else 1)
  else if m.k = 2 then C.ast m.a
  else if m.k = 3 then bkE C m.b
  else if m.k = 4 then prE C m.ps
  else if m.k = 5 then dayE C m.day
  else if m.k = 6 then (if C.cu m.t then (if mbr m.mem && sgn m.n then 0 else 1) else 11)
  else if m.k = 7 then (if mbr m.mem && sgn m.n then C.is m.t else 1)
  else if m.k = 8 then (if mbr m.q.mem then quE C m.q else 1)
  else if m.k = 9 then (if mbr m.mem && amt m.n then 0 else 1)
  else if m.k = 10 then (if mbr m.mem && amt m.tr then dayE C m.day else 1)
  else if m.k = 11 then (if mbr m.mem && (amt m.tr && decide (m.ins.length ≤ 64)) then lotsE C (m.out :: m.ins) else 1)
  else if m.k = 12 then (if mbr m.mem then dayE C m.day else 1)
  else if m.k = 13 then (if mbr m.mem then 0 else 1)
  else if m.k = 14 then (if mbr m.mem && inn m.n 0 1125899906842624 then 0 else 1)
  else if m.k = 15 then (if amt m.tr && inn m.rate (-1000000) 1000000 then dayE C m.day else 1)
  else 17
def lotL (l : Lt) : List UInt8 := textL l.i ++ intL l.q
def cutL (c : Ct) : List UInt8 := intL c.d ++ (intL c.r ++ intL c.c)
def flatM {α : Type} (f : α → List UInt8) : List α → List UInt8
  | [] => []
  | x :: l => f x ++ flatM f l
def bkL (b : Bk) : List UInt8 := intL b.id ++ (intL b.ver ++ (intL b.rat ++ (intL b.least ++ (intL b.most ++ (intL b.iss ++ (intL b.ass ++ (textL b.cur ++ (uintL b.cuts.length ++ (flatM cutL b.cuts ++ intsL b.bar)))))))))
def quL (q : Qu) : List UInt8 := intL q.id ++ (intL q.mem ++ (intL q.side ++ (intL q.bas ++ (intL q.am ++ (intL q.rate ++ (intL q.st ++ intL q.en))))))
/-- what stands behind the kind -/
def bodL (m : Mg) : List UInt8 :=
  if m.k = 1 then intL m.mem ++ textL m.name
  else if m.k = 2 then textL m.a.i ++ (intL m.a.iss ++ (intL m.a.rat ++ (intL m.a.mat ++ textL m.a.cur)))
  else if m.k = 3 then bkL m.b
  else if m.k = 4 then uintL m.ps.length ++ flatM lotL m.ps
  else if m.k = 5 then intL m.day
  else if m.k = 6 then intL m.mem ++ (intL m.n ++ textL m.t)
  else if m.k = 7 then intL m.mem ++ (intL m.n ++ textL m.t)
  else if m.k = 8 then quL m.q
  else if m.k = 9 then intL m.mem ++ intL m.n
  else if m.k = 10 then intL m.mem ++ (intL m.tr ++ intL m.day)
  else if m.k = 11 then intL m.mem ++ (intL m.tr ++ (lotL m.out ++ (uintL m.ins.length ++ flatM lotL m.ins)))
  else if m.k = 12 then intL m.mem ++ (intL m.day ++ boolL m.done)
  else if m.k = 13 then intL m.mem
  else if m.k = 14 then intL m.mem ++ intL m.n
  else if m.k = 15 then intL m.tr ++ (intL m.day ++ intL m.rate)
  else []
/-- P10.4 -/
def encL (m : Mg) : List UInt8 := intL m.k ++ bodL m
/-- numbers that a machine holds -/
structure Mg.Wf (m : Mg) : Prop where
  k : I64 m.k
  mem : I64 m.mem
  a : I64 m.a.iss ∧ I64 m.a.rat ∧ I64 m.a.mat
  b : I64 m.b.id ∧ I64 m.b.ver ∧ I64 m.b.rat ∧ I64 m.b.least ∧ I64 m.b.most ∧ I64 m.b.iss ∧ I64 m.b.ass ∧ (∀ c ∈ m.b.cuts, I64 c.d ∧ I64 c.r ∧ I64 c.c) ∧ ∀ n ∈ m.b.bar, I64 n
  ps : ∀ l ∈ m.ps, I64 l.q
  day : I64 m.day
  n : I64 m.n
  q : I64 m.q.id ∧ I64 m.q.mem ∧ I64 m.q.side ∧ I64 m.q.bas ∧ I64 m.q.am ∧ I64 m.q.rate ∧ I64 m.q.st ∧ I64 m.q.en
  out : I64 m.out.q
  ins : ∀ l ∈ m.ins, I64 l.q
  tr : I64 m.tr
  rate : I64 m.rate
/-- what its kind has -/
def plainM (m : Mg) : Mg :=
  if m.k = 1 then { Mg.z with k := 1, mem := m.mem, name := m.name }
  else if m.k = 2 then { Mg.z with k := 2, a := m.a }
  else if m.k = 3 then { Mg.z with k := 3, b := m.b }
  else if m.k = 4 then { Mg.z with k := 4, ps := m.ps }
  else if m.k = 5 then { Mg.z with k := 5, day := m.day }
  else if m.k = 6 then { Mg.z with k := 6, mem := m.mem, t := m.t, n := m.n }
  else if m.k = 7 then { Mg.z with k := 7, mem := m.mem, t := m.t, n := m.n }
  else if m.k = 8 then { Mg.z with k := 8, q := m.q }
  else if m.k = 9 then { Mg.z with k := 9, mem := m.mem, n := m.n }
  else if m.k = 10 then { Mg.z with k := 10, mem := m.mem, tr := m.tr, day := m.day }
  else if m.k = 11 then { Mg.z with k := 11, mem := m.mem, tr := m.tr, out := m.out, ins := m.ins }
  else if m.k = 12 then { Mg.z with k := 12, mem := m.mem, day := m.day, done := m.done }
  else if m.k = 13 then { Mg.z with k := 13, mem := m.mem }
  else if m.k = 14 then { Mg.z with k := 14, mem := m.mem, n := m.n }
  else if m.k = 15 then { Mg.z with k := 15, tr := m.tr, day := m.day, rate := m.rate }
  else { Mg.z with k := m.k }
end Go.Proofs.YtdmlgheajblcdaaGreat
