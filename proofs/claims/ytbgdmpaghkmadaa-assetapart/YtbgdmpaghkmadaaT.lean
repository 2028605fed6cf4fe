/- layer 13: a call of both -/
import Derived.Test.YtbgdmpaghkmadaaS
import Derived.WalkKit
import Derived.ProofKit
import Derived.Handy
import Derived.WalkLawsBesides
import Derived.WalkSpells
import Derived.BigQuiet
import Derived.BigCall
import Derived.Deep.QuietTactic
import Derived.Deep.Light
import Derived.Deep.OwnRows
import Derived.Laws.AppendOwnNone
import Derived.Laws.Strings3
import Derived.Laws.RangeAny
import Derived.Deep.RegionWith
import Derived.Lib.BitFns
import Derived.Lib.Walk
import Derived.Lib.Strings
import Derived.Lib.OthersKept
import Derived.Deep.CutBlock
import Derived.Deep.DeepCutAuto
import Derived.Deep.LoopGhost
import Derived.Deep.RegionHeld3
import Derived.Lib.SmallJoins
import Derived.Maps.AppendAt
import Derived.Laws.IdiomStrings
import Derived.Lib.AppendZeros
import Derived.Deep.WholeRow
import Derived.Laws.BitsAllLaws
import Derived.Lib.ConvBytes
import Derived.Deep.RegionLaw
import Derived.Maps.OwnSet
import Derived.Maps.OwnOps
import Derived.Maps.RangeWalk
import Derived.Maps.Ext
import Derived.DeepKeys4
import Derived.Laws.StructEq
import Derived.Deep.MidRow
import Derived.Lib.Bytealg
import Derived.Lib.Overlaps
import Derived.Lib.AppendZerosOnto
import Derived.Laws.MakeOwn
namespace Go.Proofs.Ytbgdmpaghkmadaa
open Go.RowKit
set_option linter.unusedVariables false
set_option linter.unusedSimpArgs false
open Num
set_option maxRecDepth 20000
structure Ac where
  k : Int
  a : As
  ps : List Pr
  pa : Option Addr
  pc : Nat
def Ac.cs (x : Ac) : Array Value := #[.int .i64 x.k, .string x.a.i, .int .i64 x.a.iss, .int .i64 x.a.rat, .int .i64 x.a.mat, .string x.a.c, .slice x.pa x.ps.length x.pc]
structure Aw (w : World) (x : Ac) : Prop where
  ps : Prs w x.pa x.ps
  s : x.a.i.size ≤ 140737488351232
def Ac.L (L : List Kn) (x : Ac) : List Kn := if x.k = 0 then addL L (eA x.a) x.a else setL L x.ps
theorem Ac.good {L : List Kn} (g : Num.Good L) (x : Ac) : Num.Good (Ac.L L x) := by
  unfold Ac.L
  split
  · exact Num.Good.add g (fun h => eA_ok h)
  · exact Num.Good.set g _
/-- a book and the document's list beside each other, since w0 -/
structure Ds (w0 W : World) (q : Nat) (v : Value) (lp : Nat) (L M : List Kn) (al : Option Addr) (cl : Nat) : Prop where
  b : Below w0.heap.size w0 W
  x : Bk w0.heap.size W q v L
  p : Bx W lp #[.slice al M.length cl] 25
  r : W.ownsRow w0.heap.size 44 6 (.slice al M.length cl) M.length (kcells M)
  l0 : w0.heap.size ≤ lp
theorem Ds.below {w0 W W' : World} {q : Nat} {v : Value} {lp : Nat} {L M : List Kn} {al : Option Addr} {cl : Nat} (h : Ds w0 W q v lp L M al cl) (hb : Below W.heap.size W W') : Ds w0 W' q v lp L M al cl :=
  ⟨h.b.trans (hb.mono h.b.size), h.x.below hb, h.p.below hb h.p.lt, own_below h.r hb, h.l0⟩
theorem bx_ne {w : World} {g k : Nat} {x y : Array Value} {T U : Nat} (h : Bx w g x T) (h2 : Bx w k y U) (hT : T ≠ U) : g ≠ k := by
  intro e
  subst e
  unfold Bx at h h2
  rw [h] at h2
  injection h2 with h2
  injection h2 with _ h2
  exact hT h2
theorem Ds.put {w0 W : World} {q : Nat} {v : Value} {lp : Nat} {L M : List Kn} {al : Option Addr} {cl : Nat} (h : Ds w0 W q v lp L M al cl) {M' : List Kn} {a' : Option Addr} {c' : Nat} (hr : W.ownsRow w0.heap.size 44 6 (.slice a' M'.length c') M'.length (kcells M')) : Ds w0 (W.setCell ⟨lp, 0, none⟩ (.slice a' M'.length c')) q v lp L M' a' c' := by
  have hg := grown_set W lp 0 (.slice a' M'.length c')
  refine ⟨h.b.setCell (p := ⟨lp, 0, none⟩) h.l0 _, ⟨h.x.b.kept hg (by have := bx_ne h.x.b h.p (by decide); simp [this]), own_grown h.x.o hg (own_nb h.x.o h.p (by decide)), h.x.q⟩, h.p.setc 0 _, own_grown hr hg (own_nb hr h.p (by decide)), h.l0⟩
theorem Ds.af {w0 W W' : World} {q : Nat} {v : Value} {lp : Nat} {L L' M : List Kn} {al : Option Addr} {cl : Nat} (h : Ds w0 W q v lp L M al cl) (ha : Af w0.heap.size q v L' W W') : ∃ v', Ds w0 W' q v' lp L' M al cl := by
  obtain ⟨v', hb, hk, _⟩ := ha
  have hbl := hk.below h.b.size h.x.q (fun k e => (h.x.o.lt k e).1)
  refine ⟨v', h.b.trans hbl, hb, ?_, ?_, h.l0⟩
  · exact (hk.block lp h.p.lt (bx_ne h.p h.x.b (by decide)) (own_nb h.x.o h.p (by decide))).trans h.p
  · refine own_kp h.r hk (fun e => own_nb h.r h.x.b (by decide) e.symm) (fun g e e2 => ?_)
    rcases h.r.2 with ⟨hv, _⟩ | ⟨g', cap, cur, hv, _, hg, _⟩
    · rw [hv] at e; cases e
    · rw [hv] at e
      have e1 : g' = g := by simpa [Value.ownBlock] using e
      subst e1
      exact own_nb h.x.o (q := g') (x := cur) (T := 44) hg (by decide) e2
def DoP (w0 : World) (q lp : Nat) (L : List Kn) (e : Ending) (W : World) : Prop := e = .returned (.bool true) ∧ Hid (∃ v al cl, Ds w0 W q v lp L L al cl)
set_option maxHeartbeats 16000000 in
theorem xdoes {w0 W : World} {q : Nat} {v : Value} {lp : Nat} {L : List Kn} {al : Option Addr} {cl : Nat} (h : Ds w0 W q v lp L L al cl) (g : Num.Good L) (x : Ac) (hx : Aw w0 x) (hl : x.ps.length ≤ 1000000) :
    Calls Try.prog 10 #[.pointer (some ⟨q, 0, none⟩), .pointer (some ⟨lp, 0, none⟩), .agg #[.int .i64 x.k, .string x.a.i, .int .i64 x.a.iss, .int .i64 x.a.rat, .int .i64 x.a.mat, .string x.a.c, .slice x.pa x.ps.length x.pc]] W (DoP w0 q lp (Ac.L L x)) := by
  obtain ⟨k, a, ps, pa, pc⟩ := x
  simp only at *
  obtain ⟨w1, hw1⟩ : ∃ w1, w1 = W.alloc (.cells #[.int .i64 k, .string a.i, .int .i64 a.iss, .int .i64 a.rat, .int .i64 a.mat, .string a.c, .slice pa ps.length pc] 30) := ⟨_, rfl⟩
  have HW : Hid (W.alloc (.cells #[.int .i64 k, .string a.i, .int .i64 a.iss, .int .i64 a.rat, .int .i64 a.mat, .string a.c, .slice pa ps.length pc] 30) = w1) := hw1.symm
  have hb1 : Below W.heap.size W w1 := by rw [hw1]; exact (Below.refl _ W).alloc (Nat.le_refl _) _
  have hX1 : Bx w1 W.heap.size #[.int .i64 k, .string a.i, .int .i64 a.iss, .int .i64 a.rat, .int .i64 a.mat, .string a.c, .slice pa ps.length pc] 30 := by rw [hw1]; exact Bx.new W _ _
  have h1 := h.below hb1
  have c0 : w1.cell? ⟨W.heap.size, 0, none⟩ = some (.int .i64 k) := hX1.cell 0
  have c1 : w1.cell? ⟨W.heap.size, 1, none⟩ = some (.string a.i) := hX1.cell 1
  have c2 : w1.cell? ⟨W.heap.size, 2, none⟩ = some (.int .i64 a.iss) := hX1.cell 2
  have c3 : w1.cell? ⟨W.heap.size, 3, none⟩ = some (.int .i64 a.rat) := hX1.cell 3
  have c4 : w1.cell? ⟨W.heap.size, 4, none⟩ = some (.int .i64 a.mat) := hX1.cell 4
  have c5 : w1.cell? ⟨W.heap.size, 5, none⟩ = some (.string a.c) := hX1.cell 5
  have c6 : w1.cell? ⟨W.heap.size, 6, none⟩ = some (.slice pa ps.length pc) := hX1.cell 6
  have l0 : w1.cell? ⟨lp, 0, none⟩ = some (.slice al L.length cl) := h1.p.cell 0
  have hb2 : Below w1.heap.size w1 w1.drew := (Below.refl _ w1).drew
  have h2 := h1.below hb2
  have hX2 := hX1.below hb2 hX1.lt
  by_cases hk : k = 0
  · have hkz : (k == 0) = true := by simp [hk]
    have hM : Ac.L L ⟨k, a, ps, pa, pc⟩ = addL L (eA a) a := by unfold Ac.L; rw [if_pos hk]
    rw [hM]
    have HRA : Hid (Calls Try.prog 33 #[.slice al L.length cl, .agg #[.string a.i, .int .i64 a.iss, .int .i64 a.rat, .int .i64 a.mat, .string a.c]] w1.drew fun e w2 => ∃ y, e = .returned y ∧ ∃ a' c', (y = .tuple #[.slice a' (addL L (eA a) a).length c', .int .i64 (addE L (eA a) a)] ∧ w2.cell? ⟨lp, 0, none⟩ = some (.slice al L.length cl) ∧ w2.frozen? ⟨lp, 0, none⟩ = false ∧ w2.cell? ⟨W.heap.size, 1, none⟩ = some (.string a.i) ∧ w2.cell? ⟨W.heap.size, 2, none⟩ = some (.int .i64 a.iss) ∧ w2.cell? ⟨W.heap.size, 3, none⟩ = some (.int .i64 a.rat) ∧ w2.cell? ⟨W.heap.size, 4, none⟩ = some (.int .i64 a.mat) ∧ w2.cell? ⟨W.heap.size, 5, none⟩ = some (.string a.c) ∧ lp ≠ W.heap.size ∧ Hid (Calls Try.prog 29 #[.pointer (some ⟨q, 0, none⟩), .agg #[.string a.i, .int .i64 a.iss, .int .i64 a.rat, .int .i64 a.mat, .string a.c]] (w2.setCell ⟨lp, 0, none⟩ (.slice a' (addL L (eA a) a).length c')) fun e w3 => e = .returned (.int .i64 (addE L (eA a) a)) ∧ Hid (∃ v al cl, Ds w0 w3 q v lp (addL L (eA a) a) (addL L (eA a) a) al cl)))) := by
      refine (radd g a al cl w1.drew h2.r h2.b.size).mono ?_
      rintro e w2 ⟨a', c', rfl, hz⟩
      obtain ⟨hr2, hb3⟩ := hz.out
      have h3 := h2.below hb3
      have hX3 := hX2.below hb3 hX2.lt
      have h4 := h3.put hr2
      refine ⟨_, rfl, a', c', rfl, h3.p.cell 0, h3.p.froz 0, hX3.cell 1, hX3.cell 2, hX3.cell 3, hX3.cell 4, hX3.cell 5, bx_ne h3.p hX3 (by decide), ?_⟩
      refine (xadd g a (by have := hx.s; simp only at this; omega) _ h4.x h4.b.size).mono ?_
      rintro e w3 ⟨rfl, ha⟩
      obtain ⟨v', h5⟩ := h4.af ha.out
      exact ⟨rfl, v', a', c', h5⟩
    clear h g hx hw1 hb1 hX1 h1 hb2 h2 hX2 hM hk
    generalize addL L (eA a) a = M at *
    generalize addE L (eA a) a = E at *
    go_enter Try.func10, Try.ntmps10
    go_upto_region 1 with fail
    rw [HW.out]
    go_wp2_with fail
    go_region_law (refine step_call _ (by rfl) 33 #[.slice al L.length cl, .agg #[.string a.i, .int .i64 a.iss, .int .i64 a.rat, .int .i64 a.mat, .string a.c]] (by go_simp) _ HRA.out ?_; clear HRA c0 c1 c2 c3 c4 c5 c6 l0; rintro v9 w2 ⟨a', c', rfl, k0, k9, k1, k2, k3, k4, k5, k6, HC⟩)
    all_goals
      go_wp2_with (go_at_call 29; refine HC.out.mono ?_; clear HC; rintro e w3 ⟨rfl, HZ⟩)
      go_ret
      exact ⟨by simp, HZ.out⟩
  · have hkz : (k == 0) = false := by simp [hk]
    have hM : Ac.L L ⟨k, a, ps, pa, pc⟩ = setL L ps := by unfold Ac.L; rw [if_neg hk]
    rw [hM]
    have hps : ∀ W', Below w0.heap.size w0 W' → Prs W' pa ps := fun W' hb => hx.ps.below hb
    have HRA : Hid (Calls Try.prog 34 #[.slice al L.length cl, .slice pa ps.length pc] w1.drew fun e w2 => ∃ y, e = .returned y ∧ ∃ a' c', (y = .tuple #[.slice a' (setL L ps).length c', .int .i64 (setN L ps), .int .i64 (setE L ps)] ∧ w2.cell? ⟨W.heap.size, 6, none⟩ = some (.slice pa ps.length pc) ∧ Hid (Calls Try.prog 30 #[.pointer (some ⟨q, 0, none⟩), .slice pa ps.length pc] w2 fun e w3 => e = .returned (.tuple #[.int .i64 (setN L ps), .int .i64 (setE L ps)]) ∧ w3.cell? ⟨lp, 0, none⟩ = some (.slice al L.length cl) ∧ w3.frozen? ⟨lp, 0, none⟩ = false ∧ Hid (∃ v, Ds w0 (w3.setCell ⟨lp, 0, none⟩ (.slice a' (setL L ps).length c')) q v lp (setL L ps) (setL L ps) a' c')))) := by
      refine (rset g ps hl pa pc al cl w1.drew h2.r (hps _ h2.b) h2.b.size).mono ?_
      rintro e w2 ⟨a', c', rfl, hz⟩
      obtain ⟨hr2, hb3⟩ := hz.out
      have h3 := h2.below hb3
      have hX3 := hX2.below hb3 hX2.lt
      refine ⟨_, rfl, a', c', rfl, hX3.cell 6, ?_⟩
      refine (xset g ps hl pa pc w2 h3.x (hps _ h3.b) h3.b.size (fun blk off e h0 => ?_)).mono ?_
      · obtain ⟨b9, o9, e9, hb9, _⟩ := hx.ps h0
        simp only at e9
        rw [e] at e9
        injection e9 with e9
        injection e9 with e9 _
        subst e9
        exact ⟨by have := h3.x.q; omega, fun e2 => by have := (h3.x.o.lt _ e2.symm).1; omega⟩
      rintro e w3 ⟨rfl, ha⟩
      obtain ⟨v', h5⟩ := h3.af ha.out
      obtain ⟨_, hkp⟩ := ha.out
      have hr5 : w3.ownsRow w0.heap.size 44 6 (.slice a' (setL L ps).length c') (setL L ps).length (kcells (setL L ps)) := by
        refine own_kp hr2 hkp.2.1 (fun e => own_nb hr2 h3.x.b (by decide) e.symm) (fun g e e2 => ?_)
        rcases hr2.2 with ⟨hv, _⟩ | ⟨g', cap, cur, hv, _, hg, _⟩
        · rw [hv] at e; cases e
        · rw [hv] at e
          have e1 : g' = g := by simpa [Value.ownBlock] using e
          subst e1
          exact own_nb h3.x.o (q := g') (x := cur) (T := 44) hg (by decide) e2
      exact ⟨rfl, h5.p.cell 0, h5.p.froz 0, v', h5.put hr5⟩
    clear h g hx hw1 hb1 hX1 h1 hb2 h2 hX2 hM hk hps
    generalize setL L ps = M at *
    generalize setE L ps = E at *
    generalize setN L ps = N at *
    go_enter Try.func10, Try.ntmps10
    go_upto_region 1 with fail
    rw [HW.out]
    go_wp2_with fail
    go_region_law (refine step_call _ (by rfl) 34 #[.slice al L.length cl, .slice pa ps.length pc] (by go_simp) _ HRA.out ?_; clear HRA c0 c1 c2 c3 c4 c5 c6 l0; rintro v9 w2 ⟨a', c', rfl, k6, HC⟩)
    all_goals
      go_wp2_with (go_at_call 30; refine HC.out.mono ?_; clear HC; rintro e w3 ⟨rfl, j0, j1, HZ⟩)
      go_ret
      exact ⟨by simp, HZ.out.elim fun v hv => ⟨v, _, _, hv⟩⟩
end Go.Proofs.Ytbgdmpaghkmadaa
