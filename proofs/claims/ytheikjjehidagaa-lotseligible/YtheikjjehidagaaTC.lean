/- layer 17: what both tell of a lot -/
import Derived.Test.YtheikjjehidagaaEHJ
import Derived.Test.YtheikjjehidagaaQR
import Derived.WalkKit
import Derived.ProofKit
import Derived.Handy
import Derived.WalkLawsBesides
import Derived.WalkSpells
import Derived.BigQuiet
import Derived.BigCall
import Derived.Deep.QuietTactic
import Derived.Deep.Light
import Derived.Deep.OwnRows
import Derived.Laws.AppendOwnNone
import Derived.Laws.Strings3
import Derived.Laws.RangeAny
import Derived.Deep.RegionWith
import Derived.Lib.BitFns
import Derived.Lib.Walk
import Derived.Lib.Strings
import Derived.Lib.OthersKept
import Derived.Deep.CutBlock
import Derived.Deep.DeepCutAuto
import Derived.Deep.LoopGhost
import Derived.Deep.RegionHeld3
import Derived.Lib.SmallJoins
import Derived.Maps.AppendAt
import Derived.Laws.IdiomStrings
import Derived.Lib.AppendZeros
import Derived.Deep.WholeRow
import Derived.Laws.BitsAllLaws
import Derived.Lib.ConvBytes
import Derived.Deep.RegionLaw
import Derived.Maps.OwnSet
import Derived.Maps.OwnOps
import Derived.Maps.RangeWalk
import Derived.Maps.Ext
import Derived.DeepKeys4
import Derived.Laws.StructEq
import Derived.Deep.MidRow
import Derived.Lib.Bytealg
import Derived.Lib.Overlaps
import Derived.Lib.AppendZerosOnto
import Derived.Laws.MakeOwn
namespace Go.Proofs.Ytheikjjehidagaa.H5
open Go.RowKit
set_option linter.unusedVariables false
set_option linter.unusedSimpArgs false
set_option maxRecDepth 20000
open Num
def smK (x : It) : Prop := x.l.size ≤ 281474976710656 ∧ x.a.i.size ≤ 281474976710656 ∧ x.a.c.size ≤ 281474976710656
/-- what both tell of one lot: item, error, whether it fits -/
structure Bt (w0 : World) (p : Nat) (L : List Kn) (b : Value) (d : Int) (n : ByteArray) (q : Int) (t : It × Int × Bool) : Prop where
  x : ∀ W v al cl, Fs w0 W p v L L al cl → Calls Try.prog 61 #[.pointer (some ⟨p, 0, none⟩), b, .agg #[.string n, .int .i64 q], .int .i64 d] W (FiP t.1 t.2.1 W)
  r : ∀ W v al cl, Fs w0 W p v L L al cl → Calls Try.prog 64 #[.slice al L.length cl, b, .agg #[.string n, .int .i64 q], .int .i64 d] W (FiP t.1 t.2.1 W)
  s : t.2.1 = 0 → smK t.1
  f : t.2.1 = 0 → ∀ W, Below w0.heap.size w0 W → Calls Try.prog 62 #[b, .agg #[.string t.1.a.i, .int .i64 t.1.a.iss, .int .i64 t.1.a.rat, .int .i64 t.1.a.mat, .string t.1.a.c], .int .i64 d] W (N14.KP (.bool t.2.2) W)
  y : t.2.1 = 0 → ∃ y : Int, (y == 0) = t.2.2 ∧ ∀ W, Below w0.heap.size w0 W → Calls Try.prog 65 #[b, .agg #[.string t.1.a.i, .int .i64 t.1.a.iss, .int .i64 t.1.a.rat, .int .i64 t.1.a.mat, .string t.1.a.c], .int .i64 d] W (N14.KP (.int .i64 y) W)
theorem bt_is (i0 i1 i3 i4 i5 i7 i8 : Int) (s : ByteArray) (ca ba : Option Addr) (cc bc : Nat) (xs : List N14.Ct) (ys : List Int) (hlc : xs.length ≤ 9223372036854775807) (hlb : ys.length ≤ 1000000) (n : ByteArray) (q d : Int) (hnn : n.size ≤ 281474976710656) (w0 : World) (hC : N14.Cts w0.heap.size w0 ca xs) (hI : N14.Ins w0.heap.size w0 ba ys) (L : List Kn) (g : Num.Good L) (p : Nat) :
    ∃ r, Bt w0 p L (.agg #[.int .i64 i0, .int .i64 i1, .string s, .int .i64 i3, .int .i64 i4, .int .i64 i5, .slice ca xs.length cc, .int .i64 i7, .int .i64 i8, .slice ba ys.length bc]) d n q r := by
  cases hh : has L n.toList with
  | false =>
    have e0 : fiE false false false (qkB q) ≠ 0 := by unfold fiE; simp
    refine ⟨(fiI false false false (qkB q) ⟨n, q, xfalse, 0, 0⟩, fiE false false false (qkB q), false), fun W v al cl hW => ?_, fun W v al cl hW => ?_, fun h => absurd h e0, fun h => absurd h e0, fun h => absurd h e0⟩
    · exact xfi (some ⟨p, 0, none⟩) i0 i1 i3 i4 i5 i7 i8 s ca ba cc ys.length bc xs n q d ⟨#[]⟩ ⟨#[]⟩ 0 0 0 0 0 false false false hnn W (fun W' hW' => by
        have hf := ((hW.below hW').x).fnc g n
        rw [hh] at hf
        exact xget_no W' hf) (fun h => by cases h) (fun h => by cases h)
    · exact rfi i0 i1 i3 i4 i5 i7 i8 s ca ba cc ys.length bc xs n q d L g al cl hlc W hW.rw ((hC.keep hW.b).mono hW.b.size) ⟨#[]⟩ ⟨#[]⟩ 0 0 0 0 0 false false false hh (fun h => by cases h) rfl (fun h => by cases h)
  | true =>
    obtain ⟨hp, _⟩ := has_pos g.srt hh
    have hm := g.all L[pos L n.toList] (List.getElem_mem hp)
    obtain ⟨x, hx⟩ : ∃ x, x = L[pos L n.toList] := ⟨_, rfl⟩
    rw [← hx] at hm
    obtain ⟨⟨ai, a1, a2, m, ac⟩, pr⟩ := x
    have hpr : pri L n.toList = pr := by rw [pri_at hp, ← hx]
    obtain ⟨cut, hcut⟩ : ∃ c, c = (ofC (lft m d) a2 xs).1 := ⟨_, rfl⟩
    obtain ⟨ob, hob⟩ : ∃ c, c = (ofC (lft m d) a2 xs).2 := ⟨_, rfl⟩
    have hof : ofC (lft m d) a2 xs = (cut, ob) := by rw [hcut, hob]
    have hmm : 0 ≤ m ∧ m ≤ 200000 := ⟨hm.m0, hm.m1⟩
    obtain ⟨y, hy⟩ : ∃ y, y = N14.whyN (ac.toList == s.toList) a2 i3 (N14.leftN m d) i4 i5 (ys.contains a1) := ⟨_, rfl⟩
    have he : fiE true (decide (pr ≠ 0)) ob (qkB q) = 0 → fiI true (decide (pr ≠ 0)) ob (qkB q) ⟨n, q, ⟨ai, a1, a2, m, ac⟩, pr, cut⟩ = ⟨n, q, ⟨ai, a1, a2, m, ac⟩, pr, cut⟩ := fun h => by unfold fiI; rw [if_pos h]
    refine ⟨(fiI true (decide (pr ≠ 0)) ob (qkB q) ⟨n, q, ⟨ai, a1, a2, m, ac⟩, pr, cut⟩, fiE true (decide (pr ≠ 0)) ob (qkB q), decide (y = 0)), fun W v al cl hW => ?_, fun W v al cl hW => ?_, fun h => ?_, fun h W hW => ?_, fun h => ?_⟩
    · refine xfi (some ⟨p, 0, none⟩) i0 i1 i3 i4 i5 i7 i8 s ca ba cc ys.length bc xs n q d ai ac a1 a2 m pr cut true (decide (pr ≠ 0)) ob hnn W (fun W' hW' => ?_) (fun _ W' hW' => ?_) (fun _ W' hW' => ?_)
      · have := xget_yes ((hW.below hW').x) g n hh hp
        rw [← hx] at this
        exact this
      · have := xprice_yes ((hW.below hW').x) g n hh hp
        rw [hpr] at this
        exact this
      · have hb := hW.b.trans (hW'.mono hW.b.size)
        have := xof i0 i1 i3 i4 i5 i7 i8 s ca ba cc ys.length bc xs ai ac a1 a2 m d hmm W' ((hC.keep hb).mono hb.size) hlc
        rw [hof] at this
        exact this
    · exact rfi i0 i1 i3 i4 i5 i7 i8 s ca ba cc ys.length bc xs n q d L g al cl hlc W hW.rw ((hC.keep hW.b).mono hW.b.size) ai ac a1 a2 m pr cut true (decide (pr ≠ 0)) ob hh (fun _ => ⟨hp, hx.symm⟩) rfl (fun _ => hof)
    · show smK (fiI true (decide (pr ≠ 0)) ob (qkB q) ⟨n, q, ⟨ai, a1, a2, m, ac⟩, pr, cut⟩)
      rw [he h]
      have h1 := hm.i
      have h2 := hm.c
      exact ⟨hnn, Nat.le_trans h1 (by decide), Nat.le_trans h2 (by decide)⟩
    · dsimp only
      rw [he h]
      exact N14.xfits0 i0 i1 i3 i4 i5 i7 i8 s ca ba xs.length cc ys.length bc ai ac a1 a2 m d W y (decide (y = 0)) rfl (fun W' hW' => by
        have hb := hW.trans (hW'.mono hW.size)
        exact N14.xwhy0 i0 i1 i3 i4 i5 i7 i8 s ca ba xs.length cc bc ys ai ac a1 a2 m d hmm W' ((hI.keep hb).mono hb.size) hlb _ rfl _ rfl _ rfl y hy.symm)
    · dsimp only
      rw [he h]
      refine ⟨y, by rw [Bool.eq_iff_iff]; simp, fun W hW => ?_⟩
      exact N14.rwhy0 i0 i1 i3 i4 i5 i7 i8 s ca ba xs.length cc bc ys ai ac a1 a2 m d hmm W ((hI.keep hW).mono hW.size) hlb _ rfl _ rfl _ rfl y hy.symm
end Go.Proofs.Ytheikjjehidagaa.H5
