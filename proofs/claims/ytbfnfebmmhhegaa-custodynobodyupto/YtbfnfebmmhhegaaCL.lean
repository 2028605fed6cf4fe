/- layer 12: a call of both: what is in memory -/
import Derived.Test.YtbfnfebmmhhegaaCJ
import Derived.Test.YtbfnfebmmhhegaaCK
import Derived.WalkKit
import Derived.ProofKit
import Derived.Handy
import Derived.WalkLawsBesides
import Derived.WalkSpells
import Derived.BigQuiet
import Derived.BigCall
import Derived.Deep.QuietTactic
import Derived.Deep.Light
import Derived.Deep.OwnRows
import Derived.Laws.AppendOwnNone
import Derived.Laws.Strings3
import Derived.Laws.RangeAny
import Derived.Deep.RegionWith
import Derived.Lib.BitFns
import Derived.Lib.Walk
import Derived.Lib.Strings
import Derived.Lib.OthersKept
import Derived.Deep.CutBlock
import Derived.Deep.DeepCutAuto
import Derived.Deep.LoopGhost
import Derived.Deep.RegionHeld3
import Derived.Lib.SmallJoins
import Derived.Maps.AppendAt
import Derived.Laws.IdiomStrings
import Derived.Lib.AppendZeros
import Derived.Deep.WholeRow
import Derived.Laws.BitsAllLaws
import Derived.Lib.ConvBytes
import Derived.Deep.RegionLaw
import Derived.Maps.OwnSet
import Derived.Maps.OwnOps
import Derived.Maps.RangeWalk
import Derived.Maps.Ext
import Derived.DeepKeys4
import Derived.Laws.StructEq
import Derived.Shelf.SlSortCmp.NoneTotal
import Derived.Deep.MidRow
import Derived.Laws.MakeOwn
namespace Go.Proofs.Ytbfnfebmmhhegaa
open Go.RowKit
set_option linter.unusedVariables false
set_option linter.unusedSimpArgs false
set_option maxRecDepth 20000
structure Ac where
  k : Int
  a : Int
  b : Int
  c : Int
  s : ByteArray
  n : Int
  l : List Ln
  la : Option Addr
  lc : Nat
  t : List Lot
  ta : Option Addr
  tc : Nat
def Ac.cs (x : Ac) : Array Value := #[.int .i64 x.k, .int .i64 x.a, .int .i64 x.b, .int .i64 x.c, .string x.s, .int .i64 x.n, .slice x.la x.l.length x.lc, .slice x.ta x.t.length x.tc]
/-- what a call is handed -/
structure Aw (w : World) (x : Ac) : Prop where
  ls : Ls w x.la x.l
  ts : Lts w x.ta x.t
  n : Rng x.n
theorem Aw.below {w w' : World} {x : Ac} (h : Aw w x) (hb : Below w.heap.size w w') : Aw w' x := ⟨h.ls.below hb, h.ts.below hb, h.n⟩
def Ac.sh (x : Ac) : Bool := decide (x.l.length ≤ 40) && decide (x.t.length ≤ 40)
/-- what a call makes of the balances -/
def Ac.L (L : List Num.Bal) (x : Ac) : List Num.Bal := if x.k = 0 then brL L x.a x.s.toList x.n else if x.k = 1 then mvL L x.l else if x.k = 2 then mvL L (x.t.map (way x.a x.b x.a x.c)) else mvL L (trl x.a x.b x.t x.s x.n)
theorem mvL_good {L : List Num.Bal} (g : Num.Good L) (xs : List Ln) : Num.Good (mvL L xs) := by
  unfold mvL
  split
  · exact g
  · exact g.post _
theorem mvL_len (L : List Num.Bal) (xs : List Ln) : (mvL L xs).length ≤ L.length + 2 * xs.length := by
  unfold mvL
  split
  · omega
  · have := Num.length_post L (xs.map Ln.ent)
    rw [List.length_map] at this
    exact this
theorem brL_good {L : List Num.Bal} (g : Num.Good L) (m : Int) (s : List UInt8) (n : Int) : Num.Good (brL L m s n) := by
  unfold brL
  split
  · exact g
  · exact g.post _
theorem brL_len (L : List Num.Bal) (m : Int) (s : List UInt8) (n : Int) : (brL L m s n).length ≤ L.length + 2 := by
  unfold brL
  split
  · omega
  · exact Num.length_post L [brEnt m s n]
theorem Ac.good {L : List Num.Bal} (g : Num.Good L) (x : Ac) : Num.Good (Ac.L L x) := by
  unfold Ac.L
  split
  · exact brL_good g _ _ _
  split
  · exact mvL_good g _
  split
  · exact mvL_good g _
  · exact mvL_good g _
theorem Ac.len (L : List Num.Bal) (x : Ac) (h : x.sh = true) : (Ac.L L x).length ≤ L.length + 82 := by
  unfold Ac.sh at h
  simp only [Bool.and_eq_true, decide_eq_true_eq] at h
  unfold Ac.L
  split
  · have := brL_len L x.a x.s.toList x.n; omega
  split
  · have := mvL_len L x.l; omega
  split
  · have := mvL_len L (x.t.map (way x.a x.b x.a x.c)); rw [List.length_map] at this; omega
  · have := mvL_len L (trl x.a x.b x.t x.s x.n); unfold trl at this ⊢; rw [List.length_append, List.length_map, List.length_singleton] at this; omega
theorem mp_nocell {w : World} {m : Nat} {L : List Num.Bal} (h : Mp w m L) (i : Nat) : w.cell? ⟨m, i, none⟩ = none := by
  obtain ⟨es, ⟨xs, c, h1, _⟩, _⟩ := h
  simp [World.cell?, h1]
theorem bs_grown {W W' : World} {m : Nat} {M L : List Num.Bal} {a : Option Addr} (h : Bs W a L) (hm : Mp W m M) (g : W.grownBy W' (some m)) : Bs W' a L := fun h0 => by
  obtain ⟨blk, off, h1, h2, h3⟩ := h h0
  have hne : blk ≠ m := by
    intro e
    have h4 := h3 0 h0 0 (by omega)
    rw [e, mp_nocell hm] at h4
    cases h4
  exact ⟨blk, off, h1, Nat.lt_of_lt_of_le h2 g.size, fun i hi k hk => (World.cell?_of_block (a := ⟨blk, _, none⟩) (g.block blk h2 (by simp [hne]))).trans (h3 i hi k hk)⟩
/-- books and the document's balances beside each other, since w0 -/
structure Ds (w0 W : World) (c q m lp : Nat) (L : List Num.Bal) (al : Option Addr) (cl : Nat) : Prop where
  b : Below w0.heap.size w0 W
  x : Cu W c q m L
  p : Bx W lp #[.slice al L.length cl] 25
  k : L.length ≤ cl
  r : Bs W al L
  m0 : w0.heap.size ≤ m
  l0 : w0.heap.size ≤ lp
theorem Ds.below {w0 W W' : World} {c q m lp : Nat} {L : List Num.Bal} {al : Option Addr} {cl : Nat} (h : Ds w0 W c q m lp L al cl) (hb : Below W.heap.size W W') : Ds w0 W' c q m lp L al cl :=
  ⟨h.b.trans (hb.mono h.b.size), h.x.below hb, h.p.below hb h.p.lt, h.k, h.r.below hb, h.m0, h.l0⟩
theorem Ds.done {w0 W : World} {c q m lp : Nat} {L : List Num.Bal} {v : Value} {al : Option Addr} {cl : Nat} {a0 : Option Addr} {n0 c0 : Nat} (hv : v = .slice a0 n0 c0) (hb : Below w0.heap.size w0 W) (hx : Cu W c q m L) (hp : Bx W lp #[v] 25) (hk : L.length ≤ cl) (hr : Bs W al L) (m0 : w0.heap.size ≤ m) (l0 : w0.heap.size ≤ lp) :
    Ds w0 (W.setCell ⟨lp, 0, none⟩ (.slice al L.length cl)) c q m lp L al cl := by
  subst hv
  have g := grown_set W lp 0 (.slice al L.length cl)
  have hc : c ≠ lp := by
    intro e
    have h1 := hx.b.cell 0
    have h2 := hp.cell 0
    rw [e, h2] at h1
    cases h1
  have hq : q ≠ lp := by
    intro e
    have h1 := hx.l.b.cell 0
    have h2 := hp.cell 0
    rw [e, h2] at h1
    cases h1
  have hm : m ≠ lp := by
    intro e
    have h1 := mp_nocell hx.l.m 0
    have h2 := hp.cell 0
    rw [e, h2] at h1
    cases h1
  refine ⟨hb.setCell (p := ⟨lp, 0, none⟩) l0 _, ⟨hx.b.kept g (by simp [hc]), hx.l.kept g (by simp [hq]) (by simp [hm])⟩, hp.setc 0 _, hk, fun h0 => ?_, m0, l0⟩
  obtain ⟨blk, off, h1, h2, h3⟩ := hr h0
  have hne : blk ≠ lp := by
    intro e
    have h4 := h3 0 h0 1 (by omega)
    rw [e, hp.cell] at h4
    have : (#[Value.slice a0 n0 c0] : Array Value)[off + 0 * 4 + 1]? = none := Array.getElem?_eq_none (by simp)
    rw [this] at h4
    cases h4
  exact ⟨blk, off, h1, Nat.lt_of_lt_of_le h2 g.size, fun i hi k hk => (World.cell?_of_block (a := ⟨blk, _, none⟩) (g.block blk h2 (by simp [hne]))).trans (h3 i hi k hk)⟩
theorem xsh (x : Ac) (w : World) : Calls Try.prog 10 #[.agg #[.int .i64 x.k, .int .i64 x.a, .int .i64 x.b, .int .i64 x.c, .string x.s, .int .i64 x.n, .slice x.la x.l.length x.lc, .slice x.ta x.t.length x.tc]] w fun e w' => e = .returned (.bool x.sh) ∧ Below w.heap.size w w' := by
  have HB : Hid (∀ y, Below w.heap.size w (w.alloc y)) := fun y => (Below.refl _ w).alloc (Nat.le_refl _) _
  unfold Ac.sh
  obtain ⟨k, a, b, c, s, n, l, la, lc, t, ta, tc⟩ := x
  simp only
  generalize l.length = ln
  generalize t.length = tn
  by_cases h1 : ln ≤ 40
  · have h1' : (ln : Int) ≤ 40 := by omega
    by_cases h2 : tn ≤ 40
    · have h2' : (tn : Int) ≤ 40 := by omega
      rw [decide_eq_true h1, decide_eq_true h2]
      clear h1 h2
      go_enter Try.func10, Try.ntmps10
      go_wp2
      go_ret
      exact ⟨rfl, HB.out _⟩
    · have h2' : ¬ (tn : Int) ≤ 40 := by omega
      rw [decide_eq_true h1, decide_eq_false h2]
      clear h1 h2
      go_enter Try.func10, Try.ntmps10
      go_wp2
      go_ret
      exact ⟨by simp [h2'], HB.out _⟩
  · have h1' : ¬ (ln : Int) ≤ 40 := by omega
    rw [decide_eq_false h1]
    clear h1
    go_enter Try.func10, Try.ntmps10
    go_wp2
    go_ret
    exact ⟨by simp, HB.out _⟩
end Go.Proofs.Ytbfnfebmmhhegaa
