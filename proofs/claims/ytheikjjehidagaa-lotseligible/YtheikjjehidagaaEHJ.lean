/- layer 15: law Finds -/
import Derived.Test.YtheikjjehidagaaEHI
import Derived.Test.YtheikjjehidagaaEQ
import Derived.WalkKit
import Derived.ProofKit
import Derived.Handy
import Derived.WalkLawsBesides
import Derived.WalkSpells
import Derived.BigQuiet
import Derived.BigCall
import Derived.Deep.QuietTactic
import Derived.Deep.Light
import Derived.Deep.OwnRows
import Derived.Laws.AppendOwnNone
import Derived.Laws.Strings3
import Derived.Laws.RangeAny
import Derived.Deep.RegionWith
import Derived.Lib.BitFns
import Derived.Lib.Walk
import Derived.Lib.Strings
import Derived.Lib.OthersKept
import Derived.Deep.CutBlock
import Derived.Deep.DeepCutAuto
import Derived.Deep.LoopGhost
import Derived.Deep.RegionHeld3
import Derived.Lib.SmallJoins
import Derived.Maps.AppendAt
import Derived.Laws.IdiomStrings
import Derived.Lib.AppendZeros
import Derived.Deep.WholeRow
import Derived.Laws.BitsAllLaws
import Derived.Lib.ConvBytes
import Derived.Deep.RegionLaw
import Derived.Maps.OwnSet
import Derived.Maps.OwnOps
import Derived.Maps.RangeWalk
import Derived.Maps.Ext
import Derived.DeepKeys4
import Derived.Laws.StructEq
import Derived.Deep.MidRow
import Derived.Lib.Bytealg
import Derived.Lib.Overlaps
import Derived.Lib.AppendZerosOnto
import Derived.Laws.MakeOwn
namespace Go.Proofs.Ytheikjjehidagaa.H5
open Go.RowKit
set_option linter.unusedVariables false
set_option linter.unusedSimpArgs false
set_option maxRecDepth 20000
open Num
/-- a book and the document's list beside each other, since w0 -/
structure Fs (w0 W : World) (q : Nat) (v : Value) (L M : List Kn) (al : Option Addr) (cl : Nat) : Prop where
  b : Below w0.heap.size w0 W
  x : Bk w0.heap.size W q v L
  r : W.ownsRow w0.heap.size 106 6 (.slice al M.length cl) M.length (kcells M)
theorem Fs.below {w0 W W' : World} {q : Nat} {v : Value} {L M : List Kn} {al : Option Addr} {cl : Nat} (h : Fs w0 W q v L M al cl) (hb : Below W.heap.size W W') : Fs w0 W' q v L M al cl :=
  ⟨h.b.trans (hb.mono h.b.size), h.x.below hb, own_below h.r hb⟩
theorem Fs.ref {w0 W W' : World} {q : Nat} {v : Value} {L M M' : List Kn} {al a' : Option Addr} {cl c' : Nat} (h : Fs w0 W q v L M al cl) (hr : W'.ownsRow w0.heap.size 106 6 (.slice a' M'.length c') M'.length (kcells M')) (hb : Below W.heap.size W W') : Fs w0 W' q v L M' a' c' :=
  ⟨h.b.trans (hb.mono h.b.size), h.x.below hb, hr⟩
theorem Fs.af {w0 W W' : World} {q : Nat} {v : Value} {L L' M : List Kn} {al : Option Addr} {cl : Nat} (h : Fs w0 W q v L M al cl) (ha : Af w0.heap.size q v L' W W') : ∃ v', Fs w0 W' q v' L' M al cl := by
  obtain ⟨v', hb, hk, _⟩ := ha
  have hbl := hk.below h.b.size h.x.q (fun k e => (h.x.o.lt k e).1)
  refine ⟨v', h.b.trans hbl, hb, ?_⟩
  refine own_kp h.r hk (fun e => own_nb h.r h.x.b (by decide) e.symm) (fun g e e2 => ?_)
  rcases h.r.2 with ⟨hv, _⟩ | ⟨g', cap, cur, hv, _, hg, _⟩
  · rw [hv] at e; cases e
  · rw [hv] at e
    have e1 : g' = g := by simpa [Value.ownBlock] using e
    subst e1
    exact own_nb h.x.o (q := g') (x := cur) (T := 106) hg (by decide) e2
theorem Fs.rw {w0 W : World} {q : Nat} {v : Value} {L M : List Kn} {al : Option Addr} {cl : Nat} (h : Fs w0 W q v L M al cl) : Rw 6 kcs W al M := by
  obtain ⟨a, c, e, _, hr⟩ := own_rw kcs_len h.r rfl
  injection e with e1 e2 e3
  subst e1
  exact hr
def xfalse : As := ⟨⟨#[]⟩, 0, 0, 0, ⟨#[]⟩⟩
theorem nfnc (n : ByteArray) (w : World) : FnC none n 0 false w := fun W hb => xfind (L := []) (a := none) (cap := 0) List.Pairwise.nil (by simp) n W (xknownN W) Rw.nil
theorem fi_nil (i0 i1 i3 i4 i5 i7 i8 : Int) (s : ByteArray) (ca ba : Option Addr) (cc nb bc : Nat) (xs : List N14.Ct) (n : ByteArray) (q d : Int) (hnn : n.size ≤ 281474976710656) (w : World) : Calls Try.prog 61 #[.pointer none, .agg #[.int .i64 i0, .int .i64 i1, .string s, .int .i64 i3, .int .i64 i4, .int .i64 i5, .slice ca xs.length cc, .int .i64 i7, .int .i64 i8, .slice ba nb bc], .agg #[.string n, .int .i64 q], .int .i64 d] w (FiP It.z 21 w) :=
  xfi none i0 i1 i3 i4 i5 i7 i8 s ca ba cc nb bc xs n q d ⟨#[]⟩ ⟨#[]⟩ 0 0 0 0 0 false false false hnn w (fun W _ => xget_no W (nfnc n W)) (fun h => by cases h) (fun h => by cases h)
theorem fi_both (i0 i1 i3 i4 i5 i7 i8 : Int) (s : ByteArray) (ca ba : Option Addr) (cc nb bc : Nat) (xs : List N14.Ct) (hlc : xs.length ≤ 9223372036854775807) (n : ByteArray) (q d : Int) (hnn : n.size ≤ 281474976710656) (w0 : World) (hC : N14.Cts w0.heap.size w0 ca xs) (L : List Kn) (g : Num.Good L) (p : Nat) :
    ∃ (I : It) (E : Int), (∀ W v al cl, Fs w0 W p v L L al cl → Calls Try.prog 61 #[.pointer (some ⟨p, 0, none⟩), .agg #[.int .i64 i0, .int .i64 i1, .string s, .int .i64 i3, .int .i64 i4, .int .i64 i5, .slice ca xs.length cc, .int .i64 i7, .int .i64 i8, .slice ba nb bc], .agg #[.string n, .int .i64 q], .int .i64 d] W (FiP I E W)) ∧ (∀ W v al cl, Fs w0 W p v L L al cl → Calls Try.prog 64 #[.slice al L.length cl, .agg #[.int .i64 i0, .int .i64 i1, .string s, .int .i64 i3, .int .i64 i4, .int .i64 i5, .slice ca xs.length cc, .int .i64 i7, .int .i64 i8, .slice ba nb bc], .agg #[.string n, .int .i64 q], .int .i64 d] W (FiP I E W)) := by
  cases hh : has L n.toList with
  | false =>
    refine ⟨fiI false false false (qkB q) ⟨n, q, xfalse, 0, 0⟩, fiE false false false (qkB q), fun W v al cl hW => ?_, fun W v al cl hW => ?_⟩
    · exact xfi (some ⟨p, 0, none⟩) i0 i1 i3 i4 i5 i7 i8 s ca ba cc nb bc xs n q d ⟨#[]⟩ ⟨#[]⟩ 0 0 0 0 0 false false false hnn W (fun W' hW' => by
        have hf := ((hW.below hW').x).fnc g n
        rw [hh] at hf
        exact xget_no W' hf) (fun h => by cases h) (fun h => by cases h)
    · exact rfi i0 i1 i3 i4 i5 i7 i8 s ca ba cc nb bc xs n q d L g al cl hlc W hW.rw ((hC.keep hW.b).mono hW.b.size) ⟨#[]⟩ ⟨#[]⟩ 0 0 0 0 0 false false false hh (fun h => by cases h) rfl (fun h => by cases h)
  | true =>
    obtain ⟨hp, _⟩ := has_pos g.srt hh
    have hm := g.all L[pos L n.toList] (List.getElem_mem hp)
    obtain ⟨x, hx⟩ : ∃ x, x = L[pos L n.toList] := ⟨_, rfl⟩
    rw [← hx] at hm
    obtain ⟨⟨ai, a1, a2, m, ac⟩, pr⟩ := x
    have hpr : pri L n.toList = pr := by rw [pri_at hp, ← hx]
    obtain ⟨cut, hcut⟩ : ∃ c, c = (ofC (lft m d) a2 xs).1 := ⟨_, rfl⟩
    obtain ⟨ob, hob⟩ : ∃ c, c = (ofC (lft m d) a2 xs).2 := ⟨_, rfl⟩
    have hof : ofC (lft m d) a2 xs = (cut, ob) := by rw [hcut, hob]
    refine ⟨fiI true (decide (pr ≠ 0)) ob (qkB q) ⟨n, q, ⟨ai, a1, a2, m, ac⟩, pr, cut⟩, fiE true (decide (pr ≠ 0)) ob (qkB q), fun W v al cl hW => ?_, fun W v al cl hW => ?_⟩
    · refine xfi (some ⟨p, 0, none⟩) i0 i1 i3 i4 i5 i7 i8 s ca ba cc nb bc xs n q d ai ac a1 a2 m pr cut true (decide (pr ≠ 0)) ob hnn W (fun W' hW' => ?_) (fun _ W' hW' => ?_) (fun _ W' hW' => ?_)
      · have := xget_yes ((hW.below hW').x) g n hh hp
        rw [← hx] at this
        exact this
      · have := xprice_yes ((hW.below hW').x) g n hh hp
        rw [hpr] at this
        exact this
      · have hb := hW.b.trans (hW'.mono hW.b.size)
        have := xof i0 i1 i3 i4 i5 i7 i8 s ca ba cc nb bc xs ai ac a1 a2 m d ⟨hm.m0, hm.m1⟩ W' ((hC.keep hb).mono hb.size) hlc
        rw [hof] at this
        exact this
    · exact rfi i0 i1 i3 i4 i5 i7 i8 s ca ba cc nb bc xs n q d L g al cl hlc W hW.rw ((hC.keep hW.b).mono hW.b.size) ai ac a1 a2 m pr cut true (decide (pr ≠ 0)) ob hh (fun _ => ⟨hp, hx.symm⟩) rfl (fun _ => hof)
end Go.Proofs.Ytheikjjehidagaa.H5
