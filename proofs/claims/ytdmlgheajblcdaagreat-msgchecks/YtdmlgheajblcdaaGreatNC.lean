/- layer 9, numbers: items that are written, and read back -/
import Derived.Test.YtdmlgheajblcdaaGreatNB
import Derived.WalkKit
namespace Go.Proofs.YtdmlgheajblcdaaGreat
open Go.RowKit
set_option linter.unusedVariables false
set_option linter.unusedSimpArgs false
/-- an item as its bytes: by its kind -/
def itL (k : Int) (u : Nat) (n : Int) (t : List UInt8) (b : Bool) (l : List Int) : List UInt8 :=
  if k = 0 then uintL u else if k = 1 then intL n else if k = 2 then textL t else if k = 3 then boolL b else intsL l
structure It where
  k : Int
  u : Nat
  n : Int
  t : List UInt8
  b : Bool
  l : List Int
def It.L (x : It) : List UInt8 := itL x.k x.u x.n x.t x.b x.l
structure It.Wf (x : It) : Prop where
  u : x.u < 18446744073709551616
  n : I64 x.n
  l : ∀ n ∈ x.l, I64 n
def wrL : List It → List UInt8
  | [] => []
  | x :: l => x.L ++ wrL l
theorem wrL_app (a b : List It) : wrL (a ++ b) = wrL a ++ wrL b := by
  induction a with
  | nil => rfl
  | cons x l ih => show x.L ++ wrL (l ++ b) = _; rw [ih, ← List.append_assoc]; rfl
theorem wrL_snoc (a : List It) (x : It) : wrL (a ++ [x]) = wrL a ++ x.L := by rw [wrL_app]; show _ ++ (x.L ++ []) = _; rw [List.append_nil]
theorem It.len {x : It} (h : x.Wf) (ht : x.t.length ≤ 6000) (hl : x.l.length ≤ 6000) : x.L.length ≤ 10 + x.t.length + 10 * x.l.length := by
  unfold It.L itL
  have h1 := (uint_len h.u).2
  have h2 := (uint_len (fo_lt h.n)).2
  have h3 := (uint_len (n := x.t.length) (by omega)).2
  have h4 := (uint_len (n := x.l.length) (by omega)).2
  have h5 := flatI_len x.l h.l
  split
  · omega
  split
  · show (uintL (fo x.n)).length ≤ _; omega
  split
  · show (uintL x.t.length ++ x.t).length ≤ _; rw [List.length_append]; omega
  split
  · show 1 ≤ _; omega
  · show (uintL x.l.length ++ flatI x.l).length ≤ _; rw [List.length_append]; omega
/-- texts and numbers of items together -/
def itw (l : List It) : Nat := (l.map fun x => x.t.length + x.l.length).sum
theorem wrL_len (l : List It) (h : ∀ x ∈ l, x.Wf) (hw : itw l ≤ 6000) : (wrL l).length ≤ 10 * l.length + 10 * itw l := by
  induction l with
  | nil => simp [wrL]
  | cons x l ih =>
    have e : itw (x :: l) = x.t.length + x.l.length + itw l := by simp [itw]
    have h1 := It.len (h x (List.mem_cons_self ..)) (by omega) (by omega)
    have h2 := ih (fun y hy => h y (List.mem_cons_of_mem _ hy)) (by omega)
    show (x.L ++ wrL l).length ≤ _
    rw [List.length_append, e, List.length_cons]
    omega
/-- the i-th item stands behind those ahead of it -/
theorem wrL_at (l : List It) (i : Nat) (h : i < l.length) : wrL l = wrL (l.take i) ++ (l[i]).L ++ wrL (l.drop (i + 1)) := by
  rw [← wrL_snoc, ← wrL_app, List.take_append_getElem h, List.take_append_drop]
end Go.Proofs.YtdmlgheajblcdaaGreat
