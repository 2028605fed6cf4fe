/- layer 13: nil, and what no call made -/
import Derived.Test.YtbgdmpaghkmadaaU
import Derived.WalkKit
import Derived.ProofKit
import Derived.Handy
import Derived.WalkLawsBesides
import Derived.WalkSpells
import Derived.BigQuiet
import Derived.BigCall
import Derived.Deep.QuietTactic
import Derived.Deep.Light
import Derived.Deep.OwnRows
import Derived.Laws.AppendOwnNone
import Derived.Laws.Strings3
import Derived.Laws.RangeAny
import Derived.Deep.RegionWith
import Derived.Lib.BitFns
import Derived.Lib.Walk
import Derived.Lib.Strings
import Derived.Lib.OthersKept
import Derived.Deep.CutBlock
import Derived.Deep.DeepCutAuto
import Derived.Deep.LoopGhost
import Derived.Deep.RegionHeld3
import Derived.Lib.SmallJoins
import Derived.Maps.AppendAt
import Derived.Laws.IdiomStrings
import Derived.Lib.AppendZeros
import Derived.Deep.WholeRow
import Derived.Laws.BitsAllLaws
import Derived.Lib.ConvBytes
import Derived.Deep.RegionLaw
import Derived.Maps.OwnSet
import Derived.Maps.OwnOps
import Derived.Maps.RangeWalk
import Derived.Maps.Ext
import Derived.DeepKeys4
import Derived.Laws.StructEq
import Derived.Deep.MidRow
import Derived.Lib.Bytealg
import Derived.Lib.Overlaps
import Derived.Lib.AppendZerosOnto
import Derived.Laws.MakeOwn
namespace Go.Proofs.Ytbgdmpaghkmadaa
open Go.RowKit
set_option linter.unusedVariables false
set_option linter.unusedSimpArgs false
open Num
set_option maxRecDepth 20000
theorem xlackN (w : World) : Calls Try.prog 42 #[.pointer none] w (BoP true w) := by
  go_enter Try.func42, Try.ntmps42
  go_wp2_with fail
  go_ret
  exact ⟨rfl, rfl⟩
theorem xlackZ {w : World} {q : Nat} {v : Value} (h : Bx w q #[.bool false, v] 70) : Calls Try.prog 42 #[.pointer (some ⟨q, 0, none⟩)] w (BoP true w) := by
  have c0 : w.cell? ⟨q, 0, none⟩ = some (.bool false) := h.cell 0
  clear h
  go_enter Try.func42, Try.ntmps42
  go_wp2_with fail
  go_ret
  exact ⟨rfl, rfl⟩
/-- a book that lacks -/
structure Lk (p : Option Addr) (w : World) : Prop where
  l : ∀ W, Below w.heap.size w W → Calls Try.prog 42 #[.pointer p] W (BoP true W)
  k : ∀ W, Below w.heap.size w W → KnC p none 0 0 W
theorem Lk.below {p : Option Addr} {w w' : World} (h : Lk p w) (hb : Below w.heap.size w w') : Lk p w' := ⟨fun W h2 => h.l W (hb.trans (h2.mono hb.size)), fun W h2 => h.k W (hb.trans (h2.mono hb.size))⟩
theorem Lk.nil (w : World) : Lk none w := ⟨fun W _ => xlackN W, fun W _ => xknownN W⟩
theorem Lk.zero {w : World} {q : Nat} (h : Bx w q #[.bool false, .slice none 0 0] 70) : Lk (some ⟨q, 0, none⟩) w := ⟨fun W hb => xlackZ (h.below hb h.lt), fun W hb => xknownB (h.below hb h.lt)⟩
theorem Lk.fnc {p : Option Addr} {w : World} (h : Lk p w) (n : ByteArray) : FnC p n 0 false w := fun W hb => xfind (L := []) (a := none) (cap := 0) List.Pairwise.nil (by simp) n W (h.k W hb) Rw.nil
theorem nset {p : Option Addr} {w : World} (h : Lk p w) : Calls Try.prog 30 #[.pointer p, .slice none 0 0] w fun e w' => e = .returned (.tuple #[.int .i64 0, .int .i64 3]) ∧ w = w' := by
  have HL : Hid (Calls Try.prog 42 #[.pointer p] w (BoP true w)) := h.l w (Below.refl _ _)
  clear h
  go_enter Try.func30, Try.ntmps30
  go_wp2_with (go_at_call 42; refine HL.out.mono ?_; clear HL; rintro e w1 ⟨rfl, rfl⟩)
  go_ret2
  exact ⟨rfl, rfl⟩
theorem nvalue {p : Option Addr} {w : World} (h : Lk p w) (n : ByteArray) (q : Int) : Calls Try.prog 21 #[.pointer p, .agg #[.string n, .int .i64 q]] w (WoP 0 3 w) := by
  have hb : Below w.heap.size w (w.alloc (.cells #[.string n, .int .i64 q] 56)) := (Below.refl _ w).alloc (Nat.le_refl _) _
  have HB : Hid (Below w.heap.size w (w.alloc (.cells #[.string n, .int .i64 q] 56))) := hb
  have HL : Hid (Calls Try.prog 42 #[.pointer p] (w.alloc (.cells #[.string n, .int .i64 q] 56)) (BoP true (w.alloc (.cells #[.string n, .int .i64 q] 56)))) := h.l _ hb
  clear h hb
  go_enter Try.func21, Try.ntmps21
  go_wp2_with (go_at_call 42; refine HL.out.mono ?_; clear HL; rintro e w1 ⟨rfl, rfl⟩)
  go_ret2
  exact ⟨rfl, HB.out⟩
theorem nadd {p : Option Addr} {w : World} (h : Lk p w) (i : ByteArray) (a b c : Int) (s : ByteArray) : Calls Try.prog 29 #[.pointer p, .agg #[.string i, .int .i64 a, .int .i64 b, .int .i64 c, .string s]] w (LfP 3 w) := by
  have hb : Below w.heap.size w (w.alloc (.cells #[.string i, .int .i64 a, .int .i64 b, .int .i64 c, .string s] 27)) := (Below.refl _ w).alloc (Nat.le_refl _) _
  have HB : Hid (Below w.heap.size w (w.alloc (.cells #[.string i, .int .i64 a, .int .i64 b, .int .i64 c, .string s] 27))) := hb
  have HL : Hid (Calls Try.prog 42 #[.pointer p] (w.alloc (.cells #[.string i, .int .i64 a, .int .i64 b, .int .i64 c, .string s] 27)) (BoP true (w.alloc (.cells #[.string i, .int .i64 a, .int .i64 b, .int .i64 c, .string s] 27)))) := h.l _ hb
  clear h hb
  go_enter Try.func29, Try.ntmps29
  go_wp2_with (go_at_call 42; refine HL.out.mono ?_; clear HL; rintro e w1 ⟨rfl, rfl⟩)
  go_ret
  exact ⟨rfl, HB.out⟩
theorem nil_slice {α : Type} {T k : Nat} {f : α → List Value} {w w' : World} {e : Ending} (hf : ∀ x, (f x).length = k) (h : NwP T k f ([] : List α) w e w') : ∃ a c, e = .returned (.slice a 0 c) ∧ Hid (Below w.heap.size w w') := by
  obtain ⟨a, c, rfl, _, hb⟩ := NwP.rw hf h
  exact ⟨a, c, rfl, hb⟩
theorem nall {p : Option Addr} {w : World} (h : Lk p w) : Calls Try.prog 31 #[.pointer p] w fun e w' => ∃ a c, e = .returned (.slice a 0 c) ∧ Hid (Below w.heap.size w w') := (xall (L := []) (a := none) (cap := 0) ⟨by simp, by simp, by simp⟩ w (h.k w (Below.refl _ _)) Rw.nil).mono fun e w' k => nil_slice acs_len k
theorem nprices {p : Option Addr} {w : World} (h : Lk p w) : Calls Try.prog 32 #[.pointer p] w fun e w' => ∃ a c, e = .returned (.slice a 0 c) ∧ Hid (Below w.heap.size w w') := (xprices (L := []) (a := none) (cap := 0) ⟨by simp, by simp, by simp⟩ w (h.k w (Below.refl _ _)) Rw.nil).mono fun e w' k => nil_slice prc_len k
theorem nending {p : Option Addr} {w : World} (h : Lk p w) (d : Int) : Calls Try.prog 26 #[.pointer p, .int .i64 d] w fun e w' => ∃ a c, e = .returned (.slice a 0 c) ∧ Hid (Below w.heap.size w w') := (xending (L := []) (a := none) (cap := 0) Num.Good.nil d w (h.k w (Below.refl _ _)) Rw.nil).mono fun e w' k => nil_slice stc_len k
/-- a book, the document's list, and a clone of it -/
structure Tw (w0 W : World) (q : Nat) (v : Value) (lp : Nat) (L M : List Kn) (al : Option Addr) (cl : Nat) (cq : Nat) (vc : Value) : Prop where
  d : Ds w0 W q v lp L M al cl
  c : Bk w0.heap.size W cq vc M
  n1 : cq ≠ q
  n2 : ∀ g, vc.ownBlock = some g → some g ≠ v.ownBlock
theorem Tw.below {w0 W W' : World} {q : Nat} {v : Value} {lp : Nat} {L M : List Kn} {al : Option Addr} {cl : Nat} {c : Nat} {vc : Value} (h : Tw w0 W q v lp L M al cl c vc) (hb : Below W.heap.size W W') : Tw w0 W' q v lp L M al cl c vc := ⟨h.d.below hb, h.c.below hb, h.n1, h.n2⟩
theorem Tw.af {w0 W W' : World} {q : Nat} {v : Value} {lp : Nat} {L L' M : List Kn} {al : Option Addr} {cl : Nat} {c : Nat} {vc : Value} (h : Tw w0 W q v lp L M al cl c vc) (ha : Af w0.heap.size q v L' W W') : ∃ v', Tw w0 W' q v' lp L' M al cl c vc := by
  obtain ⟨v', hb, hk, hat⟩ := ha
  have hbl := hk.below h.d.b.size h.d.x.q (fun k e => (h.d.x.o.lt k e).1)
  refine ⟨v', ⟨h.d.b.trans hbl, hb, ?_, ?_, h.d.l0⟩, ⟨?_, ?_, h.c.q⟩, h.n1, ?_⟩
  · exact (hk.block lp h.d.p.lt (bx_ne h.d.p h.d.x.b (by decide)) (own_nb h.d.x.o h.d.p (by decide))).trans h.d.p
  · refine own_kp h.d.r hk (fun e => own_nb h.d.r h.d.x.b (by decide) e.symm) (fun g e e2 => ?_)
    rcases h.d.r.2 with ⟨hv, _⟩ | ⟨g', cap, cur, hv, _, hg, _⟩
    · rw [hv] at e; cases e
    · rw [hv] at e
      have e1 : g' = g := by simpa [Value.ownBlock] using e
      subst e1
      exact own_nb h.d.x.o (q := g') (x := cur) (T := 44) hg (by decide) e2
  · exact (hk.block c h.c.b.lt h.n1 (own_nb h.d.x.o h.c.b (by decide))).trans h.c.b
  · exact own_kp h.c.o hk (fun e => own_nb h.c.o h.d.x.b (by decide) e.symm) h.n2
  · intro g e e2
    rcases hat with e3 | ⟨g', e3, hg⟩
    · rw [e3] at e2; exact h.n2 g e e2
    · rw [e3] at e2
      injection e2 with e2
      have := (h.c.o.lt g e).2
      omega
end Go.Proofs.Ytbgdmpaghkmadaa
