/- layer 16: the chapter's example -/
import Derived.Test.YtdfadcbchiogjaaGreatNM
import Derived.Test.YtdfadcbchiogjaaGreatNK
import Derived.WalkKit
import Derived.ProofKit
import Derived.Handy
import Derived.WalkLawsBesides
import Derived.WalkSpells
import Derived.BigQuiet
import Derived.BigCall
import Derived.Deep.QuietTactic
import Derived.Deep.Light
import Derived.Deep.OwnRows
import Derived.Laws.AppendOwnNone
import Derived.Laws.Strings3
import Derived.Laws.RangeAny
import Derived.Deep.RegionWith
import Derived.Lib.BitFns
import Derived.Lib.Walk
import Derived.Lib.Strings
import Derived.Lib.OthersKept
import Derived.Deep.CutBlock
import Derived.Deep.DeepCutAuto
import Derived.Deep.LoopGhost
import Derived.Deep.RegionHeld3
import Derived.Lib.SmallJoins
import Derived.Maps.AppendAt
import Derived.Laws.IdiomStrings
import Derived.Lib.AppendZeros
import Derived.Deep.WholeRow
import Derived.Laws.BitsAllLaws
import Derived.Lib.ConvBytes
import Derived.Deep.RegionLaw
import Derived.Maps.OwnSet
import Derived.Maps.OwnOps
import Derived.Maps.RangeWalk
import Derived.Maps.Ext
import Derived.DeepKeys4
import Derived.Laws.StructEq
import Derived.Deep.MidRow
import Derived.Lib.Bytealg
import Derived.Lib.AppendZerosOnto
import Derived.Laws.MakeOwn
import Derived.Deep.Upon
import Derived.Sort.KeysCollected
namespace Go.Proofs.YtdfadcbchiogjaaGreat
open Go.RowKit
set_option linter.unusedVariables false
set_option linter.unusedSimpArgs false
set_option maxRecDepth 20000
def OkP (w : World) (e : Ending) (w' : World) : Prop := e = .returned (.bool true) ∧ Below w.heap.size w w'
def T0 : Tb := newT 1000 400000 300000
def T1 : Tb := T0.add 1 [65] 300
def T2 : Tb := T1.add 1 [66] 101
theorem t_a : T0.room 1 [65] = 300 ∧ addE T0 1 [65] 300 = 0 ∧ T1.room 1 [66] = 100 ∧ addE T1 1 [66] 101 = 24 ∧ T2.open = 700 := by decide
def aA : As := ⟨⟨#[65]⟩, 1, 0, 0, ⟨#[]⟩⟩
def aB : As := ⟨⟨#[66]⟩, 1, 0, 0, ⟨#[]⟩⟩
theorem waA : Wa aA := ⟨by decide, by unfold Rng; decide⟩
theorem waB : Wa aB := ⟨by decide, by unfold Rng; decide⟩
theorem below_a (w : World) (o : Obj) : Below w.heap.size w (w.alloc o) := (Below.refl _ w).alloc (Nat.le_refl _) o
set_option maxHeartbeats 8000000 in
theorem xawake (w : World) : Calls Tryz.prog 4 #[] w (OkP w) := by
  have HN : Hid (Calls Tryz.prog 12 #[.agg #[.int .i64 0, .int .i64 0, .string ⟨#[]⟩, .int .i64 0, .int .i64 0, .int .i64 0, .slice none 0 0, .int .i64 400000, .int .i64 300000, .slice none 0 0], .int .i64 1000] w (NwP 1000 400000 300000 w)) := xnew ⟨0, 0, ⟨#[]⟩, 0, 0, 0, none, 0, 0, 400000, 300000, none, 0, 0⟩ 1000 (by decide) w
  have HG0 : Hid (Good T0 0) := newT_good ⟨by omega, by omega, by omega⟩
  have HG1 : Hid (Good T1 1) := HG0.out.add 1 [65] 300
  have HG2 : Hid (Good T2 2) := HG1.out.add 1 [66] 101
  have HR1 : Hid (∀ W p m1 m2, Tm W p m1 m2 T0 → Calls Tryz.prog 13 #[.pointer (some ⟨p, 0, none⟩), .agg #[.string ⟨#[65]⟩, .int .i64 1, .int .i64 0, .int .i64 0, .string ⟨#[]⟩]] W (RmP 300 W)) := fun W p m1 m2 h => by
    have := xroom h HG0.out waA
    rwa [show T0.room aA.iss aA.i.data.toList = 300 from t_a.1] at this
  have HA1 : Hid (∀ W p m1 m2, Tm W p m1 m2 T0 → Calls Tryz.prog 14 #[.pointer (some ⟨p, 0, none⟩), .agg #[.string ⟨#[65]⟩, .int .i64 1, .int .i64 0, .int .i64 0, .string ⟨#[]⟩], .int .i64 300] W (AdP p m1 m2 T1 0 W)) := fun W p m1 m2 h => by
    have := xadd h HG0.out (by omega) waA (c := 300) (by unfold Rng; omega)
    rwa [show addE T0 aA.iss aA.i.data.toList 300 = 0 from t_a.2.1] at this
  have HR2 : Hid (∀ W p m1 m2, Tm W p m1 m2 T1 → Calls Tryz.prog 13 #[.pointer (some ⟨p, 0, none⟩), .agg #[.string ⟨#[66]⟩, .int .i64 1, .int .i64 0, .int .i64 0, .string ⟨#[]⟩]] W (RmP 100 W)) := fun W p m1 m2 h => by
    have := xroom h HG1.out waB
    rwa [show T1.room aB.iss aB.i.data.toList = 100 from t_a.2.2.1] at this
  have HA2 : Hid (∀ W p m1 m2, Tm W p m1 m2 T1 → Calls Tryz.prog 14 #[.pointer (some ⟨p, 0, none⟩), .agg #[.string ⟨#[66]⟩, .int .i64 1, .int .i64 0, .int .i64 0, .string ⟨#[]⟩], .int .i64 101] W (AdP p m1 m2 T2 24 W)) := fun W p m1 m2 h => by
    have := xadd h HG1.out (by omega) waB (c := 101) (by unfold Rng; omega)
    rwa [show addE T1 aB.iss aB.i.data.toList 101 = 24 from t_a.2.2.2.1] at this
  have HO : Hid (∀ W p m1 m2, Tm W p m1 m2 T2 → Calls Tryz.prog 15 #[.pointer (some ⟨p, 0, none⟩)] W (RmP 700 W)) := fun W p m1 m2 h => by
    have := xopen h HG2.out (by omega)
    rwa [show T2.open = 700 from t_a.2.2.2.2] at this
  clear HG0 HG1 HG2
  go_enter Tryz.func4, Tryz.ntmps4
  go_upto_region 3 with (go_at_call 12; refine HN.out.mono ?_; clear HN; rintro e w1 ⟨p, m1, m2, rfl, HZ⟩)
  obtain ⟨w2, hw2⟩ : ∃ w2, (w1.alloc (.cells #[.string ⟨#[65]⟩, .int .i64 1, .int .i64 0, .int .i64 0, .string ⟨#[]⟩] 48)).alloc (.cells #[.string ⟨#[66]⟩, .int .i64 1, .int .i64 0, .int .i64 0, .string ⟨#[]⟩] 48) = w2 := ⟨_, rfl⟩
  have HT2 : Hid (Tm w2 p m1 m2 T0 ∧ Below w.heap.size w w2) := by rw [← hw2]; exact ⟨(HZ.out.1.alloc _).alloc _, (HZ.out.2.2.2.2.alloc HZ.out.2.2.2.2.size _).alloc (by have := HZ.out.2.2.2.2.size; simp; omega) _⟩
  have hA : Bx w2 w1.heap.size #[.string ⟨#[65]⟩, .int .i64 1, .int .i64 0, .int .i64 0, .string ⟨#[]⟩] 48 := by rw [← hw2]; exact (Bx.new w1 _ _).below (below_a _ _) (by simp)
  have hBb : Bx w2 (w1.heap.size + 1) #[.string ⟨#[66]⟩, .int .i64 1, .int .i64 0, .int .i64 0, .string ⟨#[]⟩] 48 := by have := Bx.new (w1.alloc (.cells #[.string ⟨#[65]⟩, .int .i64 1, .int .i64 0, .int .i64 0, .string ⟨#[]⟩] 48)) #[.string ⟨#[66]⟩, .int .i64 1, .int .i64 0, .int .i64 0, .string ⟨#[]⟩] 48; rw [World.size_alloc, hw2] at this; exact this
  have HC : Hid (∀ W, Kt m1 m2 w2 W → W.cell? ⟨w1.heap.size, 0, none⟩ = some (.string ⟨#[65]⟩) ∧ W.cell? ⟨w1.heap.size, 1, none⟩ = some (.int .i64 1) ∧ W.cell? ⟨w1.heap.size, 2, none⟩ = some (.int .i64 0) ∧ W.cell? ⟨w1.heap.size, 3, none⟩ = some (.int .i64 0) ∧ W.cell? ⟨w1.heap.size, 4, none⟩ = some (.string ⟨#[]⟩) ∧ W.cell? ⟨w1.heap.size + 1, 0, none⟩ = some (.string ⟨#[66]⟩) ∧ W.cell? ⟨w1.heap.size + 1, 1, none⟩ = some (.int .i64 1) ∧ W.cell? ⟨w1.heap.size + 1, 2, none⟩ = some (.int .i64 0) ∧ W.cell? ⟨w1.heap.size + 1, 3, none⟩ = some (.int .i64 0) ∧ W.cell? ⟨w1.heap.size + 1, 4, none⟩ = some (.string ⟨#[]⟩)) := fun W hk => by
    have l1 := HZ.out.1.i.lt
    have l2 := HZ.out.1.a.lt
    have kA : Bx W w1.heap.size #[.string ⟨#[65]⟩, .int .i64 1, .int .i64 0, .int .i64 0, .string ⟨#[]⟩] 48 := (hk.block _ hA.lt (by omega) (by omega)).trans hA
    have kB : Bx W (w1.heap.size + 1) #[.string ⟨#[66]⟩, .int .i64 1, .int .i64 0, .int .i64 0, .string ⟨#[]⟩] 48 := (hk.block _ hBb.lt (by omega) (by omega)).trans hBb
    exact ⟨kA.cell 0, kA.cell 1, kA.cell 2, kA.cell 3, kA.cell 4, kB.cell 0, kB.cell 1, kB.cell 2, kB.cell 3, kB.cell 4⟩
  have HM : Hid (w.heap.size ≤ m1 ∧ w.heap.size ≤ m2) := ⟨HZ.out.2.2.1, HZ.out.2.2.2.1⟩
  rw [hw2]
  clear HZ hA hBb hw2
  obtain ⟨a0, a1, a2, a3, a4, b0, b1, b2, b3, b4⟩ := HC.out w2 (Kt.refl _ _ _)
  go_wp2_with (first
    | (go_at_call 13; refine (HR1.out _ _ _ _ HT2.out.1).mono ?_; clear HR1; rintro e w3 ⟨rfl, b3⟩
       have HT3 : Hid (Tm w3 p m1 m2 T0 ∧ Below w.heap.size w w3 ∧ Kt m1 m2 w2 w3) := ⟨HT2.out.1.below b3, HT2.out.2.trans (b3.mono HT2.out.2.size), Kt.of_below b3⟩
       clear b3 HT2
       obtain ⟨c0, c1, c2, c3, c4, -⟩ := HC.out w3 HT3.out.2.2)
    | (go_at_call 14; refine (HA1.out _ _ _ _ HT3.out.1).mono ?_; clear HA1; rintro e w4 ⟨rfl, HZ4⟩
       have HT4 : Hid (Tm w4 p m1 m2 T1 ∧ Below w.heap.size w w4 ∧ Kt m1 m2 w2 w4) := ⟨HZ4.out.1, HT3.out.2.1.trans (HZ4.out.2.below HT3.out.2.1.size HM.out.1 HM.out.2), HT3.out.2.2.trans HZ4.out.2⟩
       clear HZ4 HT3
       obtain ⟨-, -, -, -, -, d0, d1, d2, d3, d4⟩ := HC.out w4 HT4.out.2.2)
    | (go_at_call 13; refine (HR2.out _ _ _ _ HT4.out.1).mono ?_; clear HR2; rintro e w5 ⟨rfl, b5⟩
       have HT5 : Hid (Tm w5 p m1 m2 T1 ∧ Below w.heap.size w w5 ∧ Kt m1 m2 w2 w5) := ⟨HT4.out.1.below b5, HT4.out.2.1.trans (b5.mono HT4.out.2.1.size), HT4.out.2.2.trans (Kt.of_below b5)⟩
       clear b5 HT4
       obtain ⟨-, -, -, -, -, e0, e1, e2, e3, e4⟩ := HC.out w5 HT5.out.2.2)
    | (go_at_call 14; refine (HA2.out _ _ _ _ HT5.out.1).mono ?_; clear HA2; rintro e w6 ⟨rfl, HZ6⟩
       have HT6 : Hid (Tm w6 p m1 m2 T2 ∧ Below w.heap.size w w6) := ⟨HZ6.out.1, HT5.out.2.1.trans (HZ6.out.2.below HT5.out.2.1.size HM.out.1 HM.out.2)⟩
       clear HZ6 HT5)
    | (go_at_call 15; refine (HO.out _ _ _ _ HT6.out.1).mono ?_; clear HO; rintro e w7 ⟨rfl, b7⟩
       have HT7 : Hid (Below w.heap.size w w7) := HT6.out.2.trans (b7.mono HT6.out.2.size)
       clear b7 HT6))
  go_ret
  exact ⟨rfl, HT7.out⟩
end Go.Proofs.YtdfadcbchiogjaaGreat
