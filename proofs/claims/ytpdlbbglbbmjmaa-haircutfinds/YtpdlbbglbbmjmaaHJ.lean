/- layer 15: law Finds -/
import Derived.Test.YtpdlbbglbbmjmaaHI
import Derived.Test.YtpdlbbglbbmjmaaQ
import Derived.WalkKit
import Derived.ProofKit
import Derived.Handy
import Derived.WalkLawsBesides
import Derived.WalkSpells
import Derived.BigQuiet
import Derived.BigCall
import Derived.Deep.QuietTactic
import Derived.Deep.Light
import Derived.Deep.OwnRows
import Derived.Laws.AppendOwnNone
import Derived.Laws.Strings3
import Derived.Laws.RangeAny
import Derived.Deep.RegionWith
import Derived.Lib.BitFns
import Derived.Lib.Walk
import Derived.Lib.Strings
import Derived.Lib.OthersKept
import Derived.Deep.CutBlock
import Derived.Deep.DeepCutAuto
import Derived.Deep.LoopGhost
import Derived.Deep.RegionHeld3
import Derived.Lib.SmallJoins
import Derived.Maps.AppendAt
import Derived.Laws.IdiomStrings
import Derived.Lib.AppendZeros
import Derived.Deep.WholeRow
import Derived.Laws.BitsAllLaws
import Derived.Lib.ConvBytes
import Derived.Deep.RegionLaw
import Derived.Maps.OwnSet
import Derived.Maps.OwnOps
import Derived.Maps.RangeWalk
import Derived.Maps.Ext
import Derived.DeepKeys4
import Derived.Laws.StructEq
import Derived.Deep.MidRow
import Derived.Lib.Bytealg
import Derived.Lib.Overlaps
import Derived.Lib.AppendZerosOnto
import Derived.Laws.MakeOwn
namespace Go.Proofs.Ytpdlbbglbbmjmaa
open Go.RowKit
set_option linter.unusedVariables false
set_option linter.unusedSimpArgs false
set_option maxRecDepth 20000
open Num
/-- a book and the document's list beside each other, since w0 -/
structure Fs (w0 W : World) (q : Nat) (v : Value) (L M : List Kn) (al : Option Addr) (cl : Nat) : Prop where
  b : Below w0.heap.size w0 W
  x : Bk w0.heap.size W q v L
  r : W.ownsRow w0.heap.size 93 6 (.slice al M.length cl) M.length (kcells M)
theorem Fs.below {w0 W W' : World} {q : Nat} {v : Value} {L M : List Kn} {al : Option Addr} {cl : Nat} (h : Fs w0 W q v L M al cl) (hb : Below W.heap.size W W') : Fs w0 W' q v L M al cl :=
  ⟨h.b.trans (hb.mono h.b.size), h.x.below hb, own_below h.r hb⟩
theorem Fs.ref {w0 W W' : World} {q : Nat} {v : Value} {L M M' : List Kn} {al a' : Option Addr} {cl c' : Nat} (h : Fs w0 W q v L M al cl) (hr : W'.ownsRow w0.heap.size 93 6 (.slice a' M'.length c') M'.length (kcells M')) (hb : Below W.heap.size W W') : Fs w0 W' q v L M' a' c' :=
  ⟨h.b.trans (hb.mono h.b.size), h.x.below hb, hr⟩
theorem Fs.af {w0 W W' : World} {q : Nat} {v : Value} {L L' M : List Kn} {al : Option Addr} {cl : Nat} (h : Fs w0 W q v L M al cl) (ha : Af w0.heap.size q v L' W W') : ∃ v', Fs w0 W' q v' L' M al cl := by
  obtain ⟨v', hb, hk, _⟩ := ha
  have hbl := hk.below h.b.size h.x.q (fun k e => (h.x.o.lt k e).1)
  refine ⟨v', h.b.trans hbl, hb, ?_⟩
  refine own_kp h.r hk (fun e => own_nb h.r h.x.b (by decide) e.symm) (fun g e e2 => ?_)
  rcases h.r.2 with ⟨hv, _⟩ | ⟨g', cap, cur, hv, _, hg, _⟩
  · rw [hv] at e; cases e
  · rw [hv] at e
    have e1 : g' = g := by simpa [Value.ownBlock] using e
    subst e1
    exact own_nb h.x.o (q := g') (x := cur) (T := 93) hg (by decide) e2
theorem Fs.rw {w0 W : World} {q : Nat} {v : Value} {L M : List Kn} {al : Option Addr} {cl : Nat} (h : Fs w0 W q v L M al cl) : Rw 6 kcs W al M := by
  obtain ⟨a, c, e, _, hr⟩ := own_rw kcs_len h.r rfl
  injection e with e1 e2 e3
  subst e1
  exact hr
def xfalse : As := ⟨⟨#[]⟩, 0, 0, 0, ⟨#[]⟩⟩
theorem nfnc (n : ByteArray) (w : World) : FnC none n 0 false w := fun W hb => xfind (L := []) (a := none) (cap := 0) List.Pairwise.nil (by simp) n W (xknownN W) Rw.nil
theorem fi_nil (i0 i1 i3 i4 i5 i7 i8 : Int) (s : ByteArray) (ca ba : Option Addr) (cc nb bc : Nat) (xs : List N14.Ct) (n : ByteArray) (q d : Int) (hnn : n.size ≤ 281474976710656) (w : World) : Calls Try.prog 31 #[.pointer none, .agg #[.int .i64 i0, .int .i64 i1, .string s, .int .i64 i3, .int .i64 i4, .int .i64 i5, .slice ca xs.length cc, .int .i64 i7, .int .i64 i8, .slice ba nb bc], .agg #[.string n, .int .i64 q], .int .i64 d] w (FiP It.z 21 w) :=
  xfi none i0 i1 i3 i4 i5 i7 i8 s ca ba cc nb bc xs n q d ⟨#[]⟩ ⟨#[]⟩ 0 0 0 0 0 false false false hnn w (fun W _ => xget_no W (nfnc n W)) (fun h => by cases h) (fun h => by cases h)
theorem fi_both (i0 i1 i3 i4 i5 i7 i8 : Int) (s : ByteArray) (ca ba : Option Addr) (cc nb bc : Nat) (xs : List N14.Ct) (hlc : xs.length ≤ 9223372036854775807) (n : ByteArray) (q d : Int) (hnn : n.size ≤ 281474976710656) (w0 : World) (hC : N14.Cts w0.heap.size w0 ca xs) (L : List Kn) (g : Num.Good L) (p : Nat) :
    ∃ (I : It) (E : Int), (∀ W v al cl, Fs w0 W p v L L al cl → Calls Try.prog 31 #[.pointer (some ⟨p, 0, none⟩), .agg #[.int .i64 i0, .int .i64 i1, .string s, .int .i64 i3, .int .i64 i4, .int .i64 i5, .slice ca xs.length cc, .int .i64 i7, .int .i64 i8, .slice ba nb bc], .agg #[.string n, .int .i64 q], .int .i64 d] W (FiP I E W)) ∧ (∀ W v al cl, Fs w0 W p v L L al cl → Calls Try.prog 32 #[.slice al L.length cl, .agg #[.int .i64 i0, .int .i64 i1, .string s, .int .i64 i3, .int .i64 i4, .int .i64 i5, .slice ca xs.length cc, .int .i64 i7, .int .i64 i8, .slice ba nb bc], .agg #[.string n, .int .i64 q], .int .i64 d] W (FiP I E W)) := by
  cases hh : has L n.toList with
  | false =>
    refine ⟨fiI false false false (qkB q) ⟨n, q, xfalse, 0, 0⟩, fiE false false false (qkB q), fun W v al cl hW => ?_, fun W v al cl hW => ?_⟩
    · exact xfi (some ⟨p, 0, none⟩) i0 i1 i3 i4 i5 i7 i8 s ca ba cc nb bc xs n q d ⟨#[]⟩ ⟨#[]⟩ 0 0 0 0 0 false false false hnn W (fun W' hW' => by
        have hf := ((hW.below hW').x).fnc g n
        rw [hh] at hf
        exact xget_no W' hf) (fun h => by cases h) (fun h => by cases h)
    · exact rfi i0 i1 i3 i4 i5 i7 i8 s ca ba cc nb bc xs n q d L g al cl hlc W hW.rw ((hC.keep hW.b).mono hW.b.size) ⟨#[]⟩ ⟨#[]⟩ 0 0 0 0 0 false false false hh (fun h => by cases h) rfl (fun h => by cases h)
  | true =>
    obtain ⟨hp, _⟩ := has_pos g.srt hh
    have hm := g.all L[pos L n.toList] (List.getElem_mem hp)
    obtain ⟨x, hx⟩ : ∃ x, x = L[pos L n.toList] := ⟨_, rfl⟩
    rw [← hx] at hm
    obtain ⟨⟨ai, a1, a2, m, ac⟩, pr⟩ := x
    have hpr : pri L n.toList = pr := by rw [pri_at hp, ← hx]
    obtain ⟨cut, hcut⟩ : ∃ c, c = (ofC (lft m d) a2 xs).1 := ⟨_, rfl⟩
    obtain ⟨ob, hob⟩ : ∃ c, c = (ofC (lft m d) a2 xs).2 := ⟨_, rfl⟩
    have hof : ofC (lft m d) a2 xs = (cut, ob) := by rw [hcut, hob]
    refine ⟨fiI true (decide (pr ≠ 0)) ob (qkB q) ⟨n, q, ⟨ai, a1, a2, m, ac⟩, pr, cut⟩, fiE true (decide (pr ≠ 0)) ob (qkB q), fun W v al cl hW => ?_, fun W v al cl hW => ?_⟩
    · refine xfi (some ⟨p, 0, none⟩) i0 i1 i3 i4 i5 i7 i8 s ca ba cc nb bc xs n q d ai ac a1 a2 m pr cut true (decide (pr ≠ 0)) ob hnn W (fun W' hW' => ?_) (fun _ W' hW' => ?_) (fun _ W' hW' => ?_)
      · have := xget_yes ((hW.below hW').x) g n hh hp
        rw [← hx] at this
        exact this
      · have := xprice_yes ((hW.below hW').x) g n hh hp
        rw [hpr] at this
        exact this
      · have hb := hW.b.trans (hW'.mono hW.b.size)
        have := xof i0 i1 i3 i4 i5 i7 i8 s ca ba cc nb bc xs ai ac a1 a2 m d ⟨hm.m0, hm.m1⟩ W' ((hC.keep hb).mono hb.size) hlc
        rw [hof] at this
        exact this
    · exact rfi i0 i1 i3 i4 i5 i7 i8 s ca ba cc nb bc xs n q d L g al cl hlc W hW.rw ((hC.keep hW.b).mono hW.b.size) ai ac a1 a2 m pr cut true (decide (pr ≠ 0)) ob hh (fun _ => ⟨hp, hx.symm⟩) rfl (fun _ => hof)
set_option maxHeartbeats 32000000 in
theorem lfinds (ks : List As) (ka : Option Addr) (kc : Nat) (ps : List Pr) (pa : Option Addr) (pc : Nat) (b : N14.Bk) (ca ba : Option Addr) (cc bc : Nat) (n : ByteArray) (q d : Int) (w : World) (hk : Rw 5 acs w ka ks) (hkw : ∀ a ∈ ks, a.i.size ≤ 140737488351232) (hp : Rw 2 prc w pa ps) (hC : N14.Cts w.heap.size w ca b.cuts) (hI : N14.Ins w.heap.size w ba b.bar) (hlc : b.cuts.length ≤ 9223372036854775807) (hlb : b.bar.length ≤ 9223372036854775807) (hnn : n.size ≤ 140737488351232) :
    Calls Try.prog 8 #[.slice ka ks.length kc, .slice pa ps.length pc, .agg #[.int .i64 b.id, .int .i64 b.ver, .string ⟨b.cur.toArray⟩, .int .i64 b.rat, .int .i64 b.least, .int .i64 b.most, .slice ca b.cuts.length cc, .int .i64 b.iss, .int .i64 b.ass, .slice ba b.bar.length bc], .agg #[.string n, .int .i64 q], .int .i64 d] w (OkP w) := by
  have HA : Hid (∀ w, Calls Try.prog 10 #[] w (OkP w)) := fun w => xawake w
  have HR0 : Hid (∀ W, Below w.heap.size w W → Calls Try.prog 9 #[.agg #[.int .i64 b.id, .int .i64 b.ver, .string ⟨b.cur.toArray⟩, .int .i64 b.rat, .int .i64 b.least, .int .i64 b.most, .slice ca b.cuts.length cc, .int .i64 b.iss, .int .i64 b.ass, .slice ba b.bar.length bc]] W (N14.KP (.int .i64 (N14.bkE N14.C0 b)) W)) := fun W hW => rbk b ca ba cc bc W ((hC.keep hW).mono hW.size) ((hI.keep hW).mono hW.size) hlc hlb
  have HK : Hid (Rw 5 acs w ka ks) := hk
  have HKW : Hid (∀ a ∈ ks, a.i.size ≤ 140737488351232) := hkw
  have HP : Hid (Rw 2 prc w pa ps) := hp
  have HC : Hid (N14.Cts w.heap.size w ca b.cuts) := hC
  have HLC : Hid (b.cuts.length ≤ 9223372036854775807) := hlc
  have HNN : Hid (n.size ≤ 140737488351232) := hnn
  clear hk hkw hp hC hI hlb hlc hnn
  generalize N14.bkE N14.C0 b = E at *
  obtain ⟨i0, i1, cur, i3, i4, i5, xs, i7, i8, ys⟩ := b
  simp only at *
  generalize ys.length = nb at *
  generalize (⟨cur.toArray⟩ : ByteArray) = s at *
  have HX : Hid (Bx ((w.alloc (.cells #[.int .i64 i0, .int .i64 i1, .string s, .int .i64 i3, .int .i64 i4, .int .i64 i5, .slice ca xs.length cc, .int .i64 i7, .int .i64 i8, .slice ba nb bc] 25)).alloc (.cells #[.string n, .int .i64 q] 46)) w.heap.size #[.int .i64 i0, .int .i64 i1, .string s, .int .i64 i3, .int .i64 i4, .int .i64 i5, .slice ca xs.length cc, .int .i64 i7, .int .i64 i8, .slice ba nb bc] 25) := (Bx.new w _ _).kept (World.grownBy_alloc _ _ none) (by simp)
  have HY : Hid (Bx ((w.alloc (.cells #[.int .i64 i0, .int .i64 i1, .string s, .int .i64 i3, .int .i64 i4, .int .i64 i5, .slice ca xs.length cc, .int .i64 i7, .int .i64 i8, .slice ba nb bc] 25)).alloc (.cells #[.string n, .int .i64 q] 46)) (w.heap.size + 1) #[.string n, .int .i64 q] 46) := by
    have := Bx.new (w.alloc (.cells #[.int .i64 i0, .int .i64 i1, .string s, .int .i64 i3, .int .i64 i4, .int .i64 i5, .slice ca xs.length cc, .int .i64 i7, .int .i64 i8, .slice ba nb bc] 25)) #[.string n, .int .i64 q] 46
    rw [World.size_alloc] at this
    exact this
  have HB : Hid (Below w.heap.size w ((w.alloc (.cells #[.int .i64 i0, .int .i64 i1, .string s, .int .i64 i3, .int .i64 i4, .int .i64 i5, .slice ca xs.length cc, .int .i64 i7, .int .i64 i8, .slice ba nb bc] 25)).alloc (.cells #[.string n, .int .i64 q] 46))) := ((Below.refl _ w).alloc (Nat.le_refl _) _).alloc (by simp) _
  go_enter Try.func8, Try.ntmps8
  go_upto_region 1 with fail
  generalize ((w.alloc (.cells #[.int .i64 i0, .int .i64 i1, .string s, .int .i64 i3, .int .i64 i4, .int .i64 i5, .slice ca xs.length cc, .int .i64 i7, .int .i64 i8, .slice ba nb bc] 25)).alloc (.cells #[.string n, .int .i64 q] 46)) = w0 at *
  have c0 : w0.cell? ⟨w.heap.size, 0, none⟩ = some (.int .i64 i0) := HX.out.cell 0
  have c1 : w0.cell? ⟨w.heap.size, 1, none⟩ = some (.int .i64 i1) := HX.out.cell 1
  have c2 : w0.cell? ⟨w.heap.size, 2, none⟩ = some (.string s) := HX.out.cell 2
  have c3 : w0.cell? ⟨w.heap.size, 3, none⟩ = some (.int .i64 i3) := HX.out.cell 3
  have c4 : w0.cell? ⟨w.heap.size, 4, none⟩ = some (.int .i64 i4) := HX.out.cell 4
  have c5 : w0.cell? ⟨w.heap.size, 5, none⟩ = some (.int .i64 i5) := HX.out.cell 5
  have c6 : w0.cell? ⟨w.heap.size, 6, none⟩ = some (.slice ca xs.length cc) := HX.out.cell 6
  have c7 : w0.cell? ⟨w.heap.size, 7, none⟩ = some (.int .i64 i7) := HX.out.cell 7
  have c8 : w0.cell? ⟨w.heap.size, 8, none⟩ = some (.int .i64 i8) := HX.out.cell 8
  have c9 : w0.cell? ⟨w.heap.size, 9, none⟩ = some (.slice ba nb bc) := HX.out.cell 9
  go_wp2_with fail
  refine (HR0.out _ HB.out).mono ?_
  rintro e w1 ⟨rfl, hb⟩
  have HX1 : Hid (Bx w1 w.heap.size #[.int .i64 i0, .int .i64 i1, .string s, .int .i64 i3, .int .i64 i4, .int .i64 i5, .slice ca xs.length cc, .int .i64 i7, .int .i64 i8, .slice ba nb bc] 25) := HX.out.keep hb.out
  have HY1 : Hid (Bx w1 (w.heap.size + 1) #[.string n, .int .i64 q] 46) := HY.out.keep hb.out
  have HB1 : Hid (Below w.heap.size w w1) := HB.out.trans (hb.out.mono HB.out.size)
  clear c0 c1 c2 c3 c4 c5 c6 c7 c8 c9 HX HY HB hb HR0
  by_cases hE : ¬ E = 0
  · have hez : ((E : Int) != 0) = true := by simp [hE]
    clear hE
    generalize ks.length = nk at *
    generalize ps.length = np at *
    go_wp2_with (go_at_call 10; refine (HA.out _).mono ?_; rintro e w2 ⟨rfl, HB2⟩; have K2 : Hid (Below w.heap.size w w2) := HB1.out.trans (HB2.mono HB1.out.size); clear HB2)
    go_ret
    exact ⟨rfl, K2.out⟩
  have hez : ((E : Int) != 0) = false := by simp [Decidable.of_not_not hE]
  clear hE
  by_cases hk40 : 40 < ks.length
  · have hkz : (40 : Int) < (ks.length : Int) := by omega
    generalize ks.length = nk at *
    generalize ps.length = np at *
    go_wp2_with (go_at_call 10; refine (HA.out _).mono ?_; rintro e w2 ⟨rfl, HB2⟩; have K2 : Hid (Below w.heap.size w w2) := HB1.out.trans (HB2.mono HB1.out.size); clear HB2)
    go_ret
    exact ⟨rfl, K2.out⟩
  have hkz : ¬ (40 : Int) < (ks.length : Int) := by omega
  by_cases hp100 : 100 < ps.length
  · have hpz : (100 : Int) < (ps.length : Int) := by omega
    go_wp2_with (go_at_call 10; refine (HA.out _).mono ?_; rintro e w2 ⟨rfl, HB2⟩; have K2 : Hid (Below w.heap.size w w2) := HB1.out.trans (HB2.mono HB1.out.size); clear HB2)
    go_ret
    exact ⟨rfl, K2.out⟩
  have hpz : ¬ (100 : Int) < (ps.length : Int) := by omega
  have HN : Hid (∀ W, Calls Try.prog 26 #[] W fun e w' => e = .returned (.pointer (some ⟨W.heap.size, 0, none⟩)) ∧ w' = W.alloc (.cells #[.bool true, .slice none 0 0] 84)) := fun W => xnew W
  go_wp2_with (go_at_call 26; refine (HN.out _).mono ?_; clear HN; rintro e w2 ⟨rfl, rfl⟩)
  have HF0 : Hid (Fs w1 (w1.alloc (.cells #[.bool true, .slice none 0 0] 84)) w1.heap.size (.slice none 0 0) [] [] none 0) := ⟨(Below.refl _ w1).alloc (Nat.le_refl _) _, Bk.new w1 (Nat.le_refl _), World.ownsRow_nil _ _ _ _⟩
  generalize w1.alloc (.cells #[.bool true, .slice none 0 0] 84) = w2 at *
  have HQ0 : Hid (w1.heap.size ≤ w1.heap.size) := Nat.le_refl _
  generalize hbq : w1.heap.size = bq at HF0 HQ0 ⊢
  have HBQ : Hid (w1.heap.size = bq) := hbq
  clear hbq
  go_loopw [12, 13] (fun r i wr => ∃ (k : Nat) (L : List Kn) (v : Value) (al : Option Addr) (cl : Nat), k ≤ ks.length ∧ i = .int .i64 k ∧ r = .slice al L.length cl ∧ Hid (Num.Good L ∧ Fs w1 wr bq v L L al cl))
    (fun _ i _ => ks.length - (intOf i).toNat)
  case atStart => exact ⟨0, [], _, none, 0, Nat.zero_le _, rfl, rfl, Num.Good.nil, HF0.out⟩
  case round =>
    obtain ⟨k, L, v, al, cl, hk, rfl, rfl, HZ⟩ := hrel
    by_cases hkn : k < ks.length
    · have hkz2 : (k : Int) < (ks.length : Int) := by omega
      obtain ⟨blk, off, rfl, hbl, hcs⟩ := HK.out (by omega)
      have hc5 := hcs k hkn
      have hsz := HKW.out ks[k] (List.getElem_mem hkn)
      have HG2 : Hid (Num.Good (addL L (eA ks[k]) ks[k])) := Num.Good.add HZ.out.1 (fun h => eA_ok h)
      have hbw := HB1.out.trans (HZ.out.2.b.mono HB1.out.size)
      have HAD : Hid (Calls Try.prog 27 #[.pointer (some ⟨bq, 0, none⟩), .agg (acs ks[k]).toArray] wr fun e w' => ∃ z, e = .returned z ∧ Hid (∃ v', Fs w1 w' bq v' (addL L (eA ks[k]) ks[k]) L al cl)) := (xadd HZ.out.1 ks[k] (by omega) wr HZ.out.2.x HZ.out.2.b.size).mono fun e w' hh => ⟨_, hh.1, HZ.out.2.af hh.2.out⟩
      have HRA : Hid (∀ W v', Fs w1 W bq v' (addL L (eA ks[k]) ks[k]) L al cl → Calls Try.prog 28 #[.slice al L.length cl, .agg (acs ks[k]).toArray] W fun e w' => ∃ a' c' z, e = .returned (.tuple #[.slice a' (addL L (eA ks[k]) ks[k]).length c', z]) ∧ Hid (Fs w1 w' bq v' (addL L (eA ks[k]) ks[k]) (addL L (eA ks[k]) ks[k]) a' c')) := fun W v' hW => (radd HZ.out.1 ks[k] al cl W hW.r hW.b.size).mono fun e w' hh => by
        obtain ⟨a', c', e1, hr⟩ := hh
        exact ⟨a', c', _, e1, hW.ref hr.out.1 hr.out.2⟩
      generalize addL L (eA ks[k]) ks[k] = L2 at *
      generalize ks[k] = x at *
      obtain ⟨ai, a1, a2, a3, ac⟩ := x
      simp only [acs] at *
      have e0 : w.cell? ⟨blk, off + k * 5, none⟩ = some (.string ai) := hc5 0 (by omega)
      have f0 : wr.cell? ⟨blk, off + k * 5, none⟩ = some (.string ai) := (hbw.cell (p := ⟨blk, _, none⟩) hbl).trans e0
      have e1 : w.cell? ⟨blk, off + k * 5 + 1, none⟩ = some (.int .i64 a1) := hc5 1 (by omega)
      have f1 : wr.cell? ⟨blk, off + k * 5 + 1, none⟩ = some (.int .i64 a1) := (hbw.cell (p := ⟨blk, _, none⟩) hbl).trans e1
      have e2 : w.cell? ⟨blk, off + k * 5 + 2, none⟩ = some (.int .i64 a2) := hc5 2 (by omega)
      have f2 : wr.cell? ⟨blk, off + k * 5 + 2, none⟩ = some (.int .i64 a2) := (hbw.cell (p := ⟨blk, _, none⟩) hbl).trans e2
      have e3 : w.cell? ⟨blk, off + k * 5 + 3, none⟩ = some (.int .i64 a3) := hc5 3 (by omega)
      have f3 : wr.cell? ⟨blk, off + k * 5 + 3, none⟩ = some (.int .i64 a3) := (hbw.cell (p := ⟨blk, _, none⟩) hbl).trans e3
      have e4 : w.cell? ⟨blk, off + k * 5 + 4, none⟩ = some (.string ac) := hc5 4 (by omega)
      have f4 : wr.cell? ⟨blk, off + k * 5 + 4, none⟩ = some (.string ac) := (hbw.cell (p := ⟨blk, _, none⟩) hbl).trans e4
      clear hcs hc5 hbw HZ
      go_wp2_with (first | (go_at_call 27; refine HAD.out.mono ?_; clear HAD; rintro e w3 ⟨z3, rfl, HF3⟩; obtain ⟨v3, hf3⟩ := HF3.out; have hbw3 := HB1.out.trans (hf3.b.mono HB1.out.size); have g0 : w3.cell? ⟨blk, off + k * 5, none⟩ = some (.string ai) := (hbw3.cell (p := ⟨blk, _, none⟩) hbl).trans e0; have g1 : w3.cell? ⟨blk, off + k * 5 + 1, none⟩ = some (.int .i64 a1) := (hbw3.cell (p := ⟨blk, _, none⟩) hbl).trans e1; have g2 : w3.cell? ⟨blk, off + k * 5 + 2, none⟩ = some (.int .i64 a2) := (hbw3.cell (p := ⟨blk, _, none⟩) hbl).trans e2; have g3 : w3.cell? ⟨blk, off + k * 5 + 3, none⟩ = some (.int .i64 a3) := (hbw3.cell (p := ⟨blk, _, none⟩) hbl).trans e3; have g4 : w3.cell? ⟨blk, off + k * 5 + 4, none⟩ = some (.string ac) := (hbw3.cell (p := ⟨blk, _, none⟩) hbl).trans e4; have HRA2 := HRA.out w3 v3 hf3; have HRA3 : Hid (Calls Try.prog 28 #[.slice al L.length cl, .agg #[.string ai, .int .i64 a1, .int .i64 a2, .int .i64 a3, .string ac]] w3 fun e w' => ∃ a' c' z, e = .returned (.tuple #[.slice a' L2.length c', z]) ∧ Hid (Fs w1 w' bq v3 L2 L2 a' c')) := HRA2; clear HRA HRA2 hbw3 hf3 HF3 f0 f1 f2 f3 f4) | (go_at_call 28; refine HRA3.out.mono ?_; clear HRA3; rintro e w4 ⟨a4, c4, z4, rfl, HF4⟩))
      go_roundw
      case rel => exact ⟨k + 1, L2, v3, a4, c4, by omega, by simp, rfl, HG2.out, HF4.out⟩
      case measure => simp [intOf]; omega
    · have hkz2 : ¬ (k : Int) < (ks.length : Int) := by omega
      have HG2 : Hid (Num.Good (setL L ps)) := Num.Good.set HZ.out.1 ps
      have hbw := HB1.out.trans (HZ.out.2.b.mono HB1.out.size)
      have HPR : Hid (∀ W, Below w1.heap.size w1 W → Prs W pa ps) := fun W hW => HP.out.below (HB1.out.trans (hW.mono HB1.out.size))
      have HSE : Hid (Calls Try.prog 29 #[.pointer (some ⟨bq, 0, none⟩), .slice pa ps.length pc] wr fun e w' => ∃ z, e = .returned z ∧ Hid (∃ v', Fs w1 w' bq v' (setL L ps) L al cl)) := (xset HZ.out.1 ps (by omega) pa pc wr HZ.out.2.x (HPR.out _ HZ.out.2.b) HZ.out.2.b.size (fun blk off e h0 => by
          obtain ⟨b2, o2, e2, h2, _⟩ := HP.out h0
          rw [e] at e2
          injection e2 with e2
          injection e2 with e2 _ _
          have hw1 := HB1.out.size
          have hq := HZ.out.2.x.q
          refine ⟨by omega, fun e3 => ?_⟩
          have := (HZ.out.2.x.o.lt blk e3.symm).1
          omega)).mono fun e w' hh => ⟨_, hh.1, HZ.out.2.af hh.2.out⟩
      have HRS : Hid (∀ W v', Fs w1 W bq v' (setL L ps) L al cl → Calls Try.prog 30 #[.slice al L.length cl, .slice pa ps.length pc] W fun e w' => ∃ a' c' z1 z2, e = .returned (.tuple #[.slice a' (setL L ps).length c', z1, z2]) ∧ Hid (Fs w1 w' bq v' (setL L ps) (setL L ps) a' c')) := fun W v' hW => (rset HZ.out.1 ps (by omega) pa pc al cl W hW.r (HPR.out _ hW.b) hW.b.size).mono fun e w' hh => by
        obtain ⟨a', c', e1, hr⟩ := hh
        exact ⟨a', c', _, _, e1, hW.ref hr.out.1 hr.out.2⟩
      obtain ⟨I, EI, hf1, hf2⟩ := fi_both i0 i1 i3 i4 i5 i7 i8 s ca ba cc nb bc xs HLC.out n q d (by have := HNN.out; omega) w1 ((HC.out.keep HB1.out).mono HB1.out.size) (setL L ps) HG2.out bq
      obtain ⟨il, iq, ⟨ia, ib, ir, im, ie⟩, ip, ix⟩ := I
      have HF1 : Hid (∀ W v al cl, Fs w1 W bq v (setL L ps) (setL L ps) al cl → Calls Try.prog 31 #[.pointer (some ⟨bq, 0, none⟩), .agg #[.int .i64 i0, .int .i64 i1, .string s, .int .i64 i3, .int .i64 i4, .int .i64 i5, .slice ca xs.length cc, .int .i64 i7, .int .i64 i8, .slice ba nb bc], .agg #[.string n, .int .i64 q], .int .i64 d] W fun e w' => e = .returned (.tuple #[.agg #[.string il, .int .i64 iq, .string ia, .int .i64 ib, .int .i64 ir, .int .i64 im, .string ie, .int .i64 ip, .int .i64 ix], .int .i64 EI]) ∧ Below W.heap.size W w') := hf1
      have HF2 : Hid (∀ W v al cl, Fs w1 W bq v (setL L ps) (setL L ps) al cl → Calls Try.prog 32 #[.slice al (setL L ps).length cl, .agg #[.int .i64 i0, .int .i64 i1, .string s, .int .i64 i3, .int .i64 i4, .int .i64 i5, .slice ca xs.length cc, .int .i64 i7, .int .i64 i8, .slice ba nb bc], .agg #[.string n, .int .i64 q], .int .i64 d] W fun e w' => e = .returned (.tuple #[.agg #[.string il, .int .i64 iq, .string ia, .int .i64 ib, .int .i64 ir, .int .i64 im, .string ie, .int .i64 ip, .int .i64 ix], .int .i64 EI]) ∧ Below W.heap.size W w') := hf2
      have HF3 : Hid (∀ W, Calls Try.prog 31 #[.pointer none, .agg #[.int .i64 i0, .int .i64 i1, .string s, .int .i64 i3, .int .i64 i4, .int .i64 i5, .slice ca xs.length cc, .int .i64 i7, .int .i64 i8, .slice ba nb bc], .agg #[.string n, .int .i64 q], .int .i64 d] W fun e w' => e = .returned (.tuple #[.agg #[.string ⟨#[]⟩, .int .i64 0, .string ⟨#[]⟩, .int .i64 0, .int .i64 0, .int .i64 0, .string ⟨#[]⟩, .int .i64 0, .int .i64 0], .int .i64 21]) ∧ Below W.heap.size W w') := fun W => fi_nil i0 i1 i3 i4 i5 i7 i8 s ca ba cc nb bc xs n q d (by have := HNN.out; omega) W
      clear hf1 hf2 hbw HPR HP HC HG2 HZ HK HKW
      generalize setL L ps = L2 at *
      go_upto_region 12 with (first | (go_at_call 29; refine HSE.out.mono ?_; clear HSE; rintro e w3 ⟨z3, rfl, HFa⟩; obtain ⟨v3, hf3⟩ := HFa.out; have HRS3 := HRS.out w3 v3 hf3; have HRS4 : Hid (Calls Try.prog 30 #[.slice al L.length cl, .slice pa ps.length pc] w3 fun e w' => ∃ a' c' z1 z2, e = .returned (.tuple #[.slice a' L2.length c', z1, z2]) ∧ Hid (Fs w1 w' bq v3 L2 L2 a' c')) := HRS3; clear HRS HRS3 hf3 HFa) | (go_at_call 30; refine HRS4.out.mono ?_; clear HRS4; rintro e w4 ⟨ad4, cp4, z4, z5, rfl, HF4⟩))
      have hz1 := HF4.out.b
      have HX4 : Hid (Bx w4 w.heap.size #[.int .i64 i0, .int .i64 i1, .string s, .int .i64 i3, .int .i64 i4, .int .i64 i5, .slice ca xs.length cc, .int .i64 i7, .int .i64 i8, .slice ba nb bc] 25) := HX1.out.keep hz1
      have HY4 : Hid (Bx w4 (w.heap.size + 1) #[.string n, .int .i64 q] 46) := HY1.out.keep hz1
      clear hz1 HX1 HY1
      have c0 : w4.cell? ⟨w.heap.size, 0, none⟩ = some (.int .i64 i0) := HX4.out.cell 0
      have c1 : w4.cell? ⟨w.heap.size, 1, none⟩ = some (.int .i64 i1) := HX4.out.cell 1
      have c2 : w4.cell? ⟨w.heap.size, 2, none⟩ = some (.string s) := HX4.out.cell 2
      have c3 : w4.cell? ⟨w.heap.size, 3, none⟩ = some (.int .i64 i3) := HX4.out.cell 3
      have c4 : w4.cell? ⟨w.heap.size, 4, none⟩ = some (.int .i64 i4) := HX4.out.cell 4
      have c5 : w4.cell? ⟨w.heap.size, 5, none⟩ = some (.int .i64 i5) := HX4.out.cell 5
      have c6 : w4.cell? ⟨w.heap.size, 6, none⟩ = some (.slice ca xs.length cc) := HX4.out.cell 6
      have c7 : w4.cell? ⟨w.heap.size, 7, none⟩ = some (.int .i64 i7) := HX4.out.cell 7
      have c8 : w4.cell? ⟨w.heap.size, 8, none⟩ = some (.int .i64 i8) := HX4.out.cell 8
      have c9 : w4.cell? ⟨w.heap.size, 9, none⟩ = some (.slice ba nb bc) := HX4.out.cell 9
      have l0 : w4.cell? ⟨w.heap.size + 1, 0, none⟩ = some (.string n) := HY4.out.cell 0
      have l1 : w4.cell? ⟨w.heap.size + 1, 1, none⟩ = some (.int .i64 q) := HY4.out.cell 1
      go_wp2_with fail
      refine (HF1.out _ v3 ad4 cp4 HF4.out).mono ?_
      rintro e w5 ⟨rfl, hb⟩
      have ha : Below w5.heap.size w5 (w5.alloc (.cells #[.string il, .int .i64 iq, .string ia, .int .i64 ib, .int .i64 ir, .int .i64 im, .string ie, .int .i64 ip, .int .i64 ix] 48)) := (Below.refl _ w5).alloc (Nat.le_refl _) _
      have hc : Below w4.heap.size w4 (w5.alloc (.cells #[.string il, .int .i64 iq, .string ia, .int .i64 ib, .int .i64 ir, .int .i64 im, .string ie, .int .i64 ip, .int .i64 ix] 48)) := hb.trans (ha.mono hb.size)
      have HX5 : Hid (Bx (w5.alloc (.cells #[.string il, .int .i64 iq, .string ia, .int .i64 ib, .int .i64 ir, .int .i64 im, .string ie, .int .i64 ip, .int .i64 ix] 48)) w.heap.size #[.int .i64 i0, .int .i64 i1, .string s, .int .i64 i3, .int .i64 i4, .int .i64 i5, .slice ca xs.length cc, .int .i64 i7, .int .i64 i8, .slice ba nb bc] 25) := HX4.out.keep hc
      have HY5 : Hid (Bx (w5.alloc (.cells #[.string il, .int .i64 iq, .string ia, .int .i64 ib, .int .i64 ir, .int .i64 im, .string ie, .int .i64 ip, .int .i64 ix] 48)) (w.heap.size + 1) #[.string n, .int .i64 q] 46) := HY4.out.keep hc
      have HF5 : Hid (Fs w1 (w5.alloc (.cells #[.string il, .int .i64 iq, .string ia, .int .i64 ib, .int .i64 ir, .int .i64 im, .string ie, .int .i64 ip, .int .i64 ix] 48)) bq v3 L2 L2 ad4 cp4) := HF4.out.below hc
      have HI5 : Hid (Bx (w5.alloc (.cells #[.string il, .int .i64 iq, .string ia, .int .i64 ib, .int .i64 ir, .int .i64 im, .string ie, .int .i64 ip, .int .i64 ix] 48)) w5.heap.size #[.string il, .int .i64 iq, .string ia, .int .i64 ib, .int .i64 ir, .int .i64 im, .string ie, .int .i64 ip, .int .i64 ix] 48) := Bx.new w5 _ _
      clear hb ha hc HX4 HY4 HF4 c0 c1 c2 c3 c4 c5 c6 c7 c8 c9 l0 l1 
      go_upto_region 13 with fail
      generalize w5.alloc (.cells #[.string il, .int .i64 iq, .string ia, .int .i64 ib, .int .i64 ir, .int .i64 im, .string ie, .int .i64 ip, .int .i64 ix] 48) = w5' at *
      generalize w5.heap.size = g1 at *
      clear HF1
      have HJ5 : Hid (Bx w5' g1 #[.string il, .int .i64 iq, .string ia, .int .i64 ib, .int .i64 ir, .int .i64 im, .string ie, .int .i64 ip, .int .i64 ix] 48) := HI5.out
      clear HI5
      have c0 : w5'.cell? ⟨w.heap.size, 0, none⟩ = some (.int .i64 i0) := HX5.out.cell 0
      have c1 : w5'.cell? ⟨w.heap.size, 1, none⟩ = some (.int .i64 i1) := HX5.out.cell 1
      have c2 : w5'.cell? ⟨w.heap.size, 2, none⟩ = some (.string s) := HX5.out.cell 2
      have c3 : w5'.cell? ⟨w.heap.size, 3, none⟩ = some (.int .i64 i3) := HX5.out.cell 3
      have c4 : w5'.cell? ⟨w.heap.size, 4, none⟩ = some (.int .i64 i4) := HX5.out.cell 4
      have c5 : w5'.cell? ⟨w.heap.size, 5, none⟩ = some (.int .i64 i5) := HX5.out.cell 5
      have c6 : w5'.cell? ⟨w.heap.size, 6, none⟩ = some (.slice ca xs.length cc) := HX5.out.cell 6
      have c7 : w5'.cell? ⟨w.heap.size, 7, none⟩ = some (.int .i64 i7) := HX5.out.cell 7
      have c8 : w5'.cell? ⟨w.heap.size, 8, none⟩ = some (.int .i64 i8) := HX5.out.cell 8
      have c9 : w5'.cell? ⟨w.heap.size, 9, none⟩ = some (.slice ba nb bc) := HX5.out.cell 9
      have l0 : w5'.cell? ⟨w.heap.size + 1, 0, none⟩ = some (.string n) := HY5.out.cell 0
      have l1 : w5'.cell? ⟨w.heap.size + 1, 1, none⟩ = some (.int .i64 q) := HY5.out.cell 1
      go_wp2_with fail
      refine (HF2.out _ v3 ad4 cp4 HF5.out).mono ?_
      rintro e w6 ⟨rfl, hb⟩
      have ha : Below w6.heap.size w6 (w6.alloc (.cells #[.string il, .int .i64 iq, .string ia, .int .i64 ib, .int .i64 ir, .int .i64 im, .string ie, .int .i64 ip, .int .i64 ix] 50)) := (Below.refl _ w6).alloc (Nat.le_refl _) _
      have hc : Below w5'.heap.size w5' (w6.alloc (.cells #[.string il, .int .i64 iq, .string ia, .int .i64 ib, .int .i64 ir, .int .i64 im, .string ie, .int .i64 ip, .int .i64 ix] 50)) := hb.trans (ha.mono hb.size)
      have HX6 : Hid (Bx (w6.alloc (.cells #[.string il, .int .i64 iq, .string ia, .int .i64 ib, .int .i64 ir, .int .i64 im, .string ie, .int .i64 ip, .int .i64 ix] 50)) w.heap.size #[.int .i64 i0, .int .i64 i1, .string s, .int .i64 i3, .int .i64 i4, .int .i64 i5, .slice ca xs.length cc, .int .i64 i7, .int .i64 i8, .slice ba nb bc] 25) := HX5.out.keep hc
      have HY6 : Hid (Bx (w6.alloc (.cells #[.string il, .int .i64 iq, .string ia, .int .i64 ib, .int .i64 ir, .int .i64 im, .string ie, .int .i64 ip, .int .i64 ix] 50)) (w.heap.size + 1) #[.string n, .int .i64 q] 46) := HY5.out.keep hc
      have HF6 : Hid (Fs w1 (w6.alloc (.cells #[.string il, .int .i64 iq, .string ia, .int .i64 ib, .int .i64 ir, .int .i64 im, .string ie, .int .i64 ip, .int .i64 ix] 50)) bq v3 L2 L2 ad4 cp4) := HF5.out.below hc
      have HI6 : Hid (Bx (w6.alloc (.cells #[.string il, .int .i64 iq, .string ia, .int .i64 ib, .int .i64 ir, .int .i64 im, .string ie, .int .i64 ip, .int .i64 ix] 50)) w6.heap.size #[.string il, .int .i64 iq, .string ia, .int .i64 ib, .int .i64 ir, .int .i64 im, .string ie, .int .i64 ip, .int .i64 ix] 50) := Bx.new w6 _ _
      have HJ6 : Hid (Bx (w6.alloc (.cells #[.string il, .int .i64 iq, .string ia, .int .i64 ib, .int .i64 ir, .int .i64 im, .string ie, .int .i64 ip, .int .i64 ix] 50)) g1 #[.string il, .int .i64 iq, .string ia, .int .i64 ib, .int .i64 ir, .int .i64 im, .string ie, .int .i64 ip, .int .i64 ix] 48) := HJ5.out.keep hc
      clear hb ha hc HX5 HY5 HF5 c0 c1 c2 c3 c4 c5 c6 c7 c8 c9 l0 l1 HJ5
      go_upto_region 14 with fail
      generalize w6.alloc (.cells #[.string il, .int .i64 iq, .string ia, .int .i64 ib, .int .i64 ir, .int .i64 im, .string ie, .int .i64 ip, .int .i64 ix] 50) = w6' at *
      generalize w6.heap.size = g2 at *
      clear HF2
      have HM6 : Hid (Bx w6' g2 #[.string il, .int .i64 iq, .string ia, .int .i64 ib, .int .i64 ir, .int .i64 im, .string ie, .int .i64 ip, .int .i64 ix] 50) := HI6.out
      clear HI6
      have c0 : w6'.cell? ⟨w.heap.size, 0, none⟩ = some (.int .i64 i0) := HX6.out.cell 0
      have c1 : w6'.cell? ⟨w.heap.size, 1, none⟩ = some (.int .i64 i1) := HX6.out.cell 1
      have c2 : w6'.cell? ⟨w.heap.size, 2, none⟩ = some (.string s) := HX6.out.cell 2
      have c3 : w6'.cell? ⟨w.heap.size, 3, none⟩ = some (.int .i64 i3) := HX6.out.cell 3
      have c4 : w6'.cell? ⟨w.heap.size, 4, none⟩ = some (.int .i64 i4) := HX6.out.cell 4
      have c5 : w6'.cell? ⟨w.heap.size, 5, none⟩ = some (.int .i64 i5) := HX6.out.cell 5
      have c6 : w6'.cell? ⟨w.heap.size, 6, none⟩ = some (.slice ca xs.length cc) := HX6.out.cell 6
      have c7 : w6'.cell? ⟨w.heap.size, 7, none⟩ = some (.int .i64 i7) := HX6.out.cell 7
      have c8 : w6'.cell? ⟨w.heap.size, 8, none⟩ = some (.int .i64 i8) := HX6.out.cell 8
      have c9 : w6'.cell? ⟨w.heap.size, 9, none⟩ = some (.slice ba nb bc) := HX6.out.cell 9
      have l0 : w6'.cell? ⟨w.heap.size + 1, 0, none⟩ = some (.string n) := HY6.out.cell 0
      have l1 : w6'.cell? ⟨w.heap.size + 1, 1, none⟩ = some (.int .i64 q) := HY6.out.cell 1
      go_wp2_with fail
      refine (HF3.out _).mono ?_
      rintro e w7 ⟨rfl, hb⟩
      have ha : Below w7.heap.size w7 (w7.alloc (.cells #[.string ⟨#[]⟩, .int .i64 0, .string ⟨#[]⟩, .int .i64 0, .int .i64 0, .int .i64 0, .string ⟨#[]⟩, .int .i64 0, .int .i64 0] 48)) := (Below.refl _ w7).alloc (Nat.le_refl _) _
      have hc : Below w6'.heap.size w6' (w7.alloc (.cells #[.string ⟨#[]⟩, .int .i64 0, .string ⟨#[]⟩, .int .i64 0, .int .i64 0, .int .i64 0, .string ⟨#[]⟩, .int .i64 0, .int .i64 0] 48)) := hb.trans (ha.mono hb.size)
      have HX7 : Hid (Bx (w7.alloc (.cells #[.string ⟨#[]⟩, .int .i64 0, .string ⟨#[]⟩, .int .i64 0, .int .i64 0, .int .i64 0, .string ⟨#[]⟩, .int .i64 0, .int .i64 0] 48)) w.heap.size #[.int .i64 i0, .int .i64 i1, .string s, .int .i64 i3, .int .i64 i4, .int .i64 i5, .slice ca xs.length cc, .int .i64 i7, .int .i64 i8, .slice ba nb bc] 25) := HX6.out.keep hc
      have HY7 : Hid (Bx (w7.alloc (.cells #[.string ⟨#[]⟩, .int .i64 0, .string ⟨#[]⟩, .int .i64 0, .int .i64 0, .int .i64 0, .string ⟨#[]⟩, .int .i64 0, .int .i64 0] 48)) (w.heap.size + 1) #[.string n, .int .i64 q] 46) := HY6.out.keep hc
      have HF7 : Hid (Fs w1 (w7.alloc (.cells #[.string ⟨#[]⟩, .int .i64 0, .string ⟨#[]⟩, .int .i64 0, .int .i64 0, .int .i64 0, .string ⟨#[]⟩, .int .i64 0, .int .i64 0] 48)) bq v3 L2 L2 ad4 cp4) := HF6.out.below hc
      have HI7 : Hid (Bx (w7.alloc (.cells #[.string ⟨#[]⟩, .int .i64 0, .string ⟨#[]⟩, .int .i64 0, .int .i64 0, .int .i64 0, .string ⟨#[]⟩, .int .i64 0, .int .i64 0] 48)) w7.heap.size #[.string ⟨#[]⟩, .int .i64 0, .string ⟨#[]⟩, .int .i64 0, .int .i64 0, .int .i64 0, .string ⟨#[]⟩, .int .i64 0, .int .i64 0] 48) := Bx.new w7 _ _
      have HJ7 : Hid (Bx (w7.alloc (.cells #[.string ⟨#[]⟩, .int .i64 0, .string ⟨#[]⟩, .int .i64 0, .int .i64 0, .int .i64 0, .string ⟨#[]⟩, .int .i64 0, .int .i64 0] 48)) g1 #[.string il, .int .i64 iq, .string ia, .int .i64 ib, .int .i64 ir, .int .i64 im, .string ie, .int .i64 ip, .int .i64 ix] 48) := HJ6.out.keep hc
      have HM7 : Hid (Bx (w7.alloc (.cells #[.string ⟨#[]⟩, .int .i64 0, .string ⟨#[]⟩, .int .i64 0, .int .i64 0, .int .i64 0, .string ⟨#[]⟩, .int .i64 0, .int .i64 0] 48)) g2 #[.string il, .int .i64 iq, .string ia, .int .i64 ib, .int .i64 ir, .int .i64 im, .string ie, .int .i64 ip, .int .i64 ix] 50) := HM6.out.keep hc
      clear hb ha hc HX6 HY6 HF6 c0 c1 c2 c3 c4 c5 c6 c7 c8 c9 l0 l1 HJ6 HM6
      go_upto_region 15 with fail
      generalize w7.alloc (.cells #[.string ⟨#[]⟩, .int .i64 0, .string ⟨#[]⟩, .int .i64 0, .int .i64 0, .int .i64 0, .string ⟨#[]⟩, .int .i64 0, .int .i64 0] 48) = w7' at *
      generalize w7.heap.size = g3 at *
      clear HF3
      have j0 : w7'.cell? ⟨g1, 0, none⟩ = some (.string il) := HJ7.out.cell 0
      have j1 : w7'.cell? ⟨g1, 1, none⟩ = some (.int .i64 iq) := HJ7.out.cell 1
      have j2 : w7'.cell? ⟨g1, 2, none⟩ = some (.string ia) := HJ7.out.cell 2
      have j3 : w7'.cell? ⟨g1, 3, none⟩ = some (.int .i64 ib) := HJ7.out.cell 3
      have j4 : w7'.cell? ⟨g1, 4, none⟩ = some (.int .i64 ir) := HJ7.out.cell 4
      have j5 : w7'.cell? ⟨g1, 5, none⟩ = some (.int .i64 im) := HJ7.out.cell 5
      have j6 : w7'.cell? ⟨g1, 6, none⟩ = some (.string ie) := HJ7.out.cell 6
      have j7 : w7'.cell? ⟨g1, 7, none⟩ = some (.int .i64 ip) := HJ7.out.cell 7
      have j8 : w7'.cell? ⟨g1, 8, none⟩ = some (.int .i64 ix) := HJ7.out.cell 8
      have m0 : w7'.cell? ⟨g2, 0, none⟩ = some (.string il) := HM7.out.cell 0
      have m1 : w7'.cell? ⟨g2, 1, none⟩ = some (.int .i64 iq) := HM7.out.cell 1
      have m2 : w7'.cell? ⟨g2, 2, none⟩ = some (.string ia) := HM7.out.cell 2
      have m3 : w7'.cell? ⟨g2, 3, none⟩ = some (.int .i64 ib) := HM7.out.cell 3
      have m4 : w7'.cell? ⟨g2, 4, none⟩ = some (.int .i64 ir) := HM7.out.cell 4
      have m5 : w7'.cell? ⟨g2, 5, none⟩ = some (.int .i64 im) := HM7.out.cell 5
      have m6 : w7'.cell? ⟨g2, 6, none⟩ = some (.string ie) := HM7.out.cell 6
      have m7 : w7'.cell? ⟨g2, 7, none⟩ = some (.int .i64 ip) := HM7.out.cell 7
      have m8 : w7'.cell? ⟨g2, 8, none⟩ = some (.int .i64 ix) := HM7.out.cell 8
      have z0 : w7'.cell? ⟨g3, 0, none⟩ = some (.string ⟨#[]⟩) := HI7.out.cell 0
      have z1 : w7'.cell? ⟨g3, 1, none⟩ = some (.int .i64 0) := HI7.out.cell 1
      have z2 : w7'.cell? ⟨g3, 2, none⟩ = some (.string ⟨#[]⟩) := HI7.out.cell 2
      have z3 : w7'.cell? ⟨g3, 3, none⟩ = some (.int .i64 0) := HI7.out.cell 3
      have z4 : w7'.cell? ⟨g3, 4, none⟩ = some (.int .i64 0) := HI7.out.cell 4
      have z5 : w7'.cell? ⟨g3, 5, none⟩ = some (.int .i64 0) := HI7.out.cell 5
      have z6 : w7'.cell? ⟨g3, 6, none⟩ = some (.string ⟨#[]⟩) := HI7.out.cell 6
      have z7 : w7'.cell? ⟨g3, 7, none⟩ = some (.int .i64 0) := HI7.out.cell 7
      have z8 : w7'.cell? ⟨g3, 8, none⟩ = some (.int .i64 0) := HI7.out.cell 8
      have K7 : Hid (Below w.heap.size w w7') := HB1.out.trans (HF7.out.b.mono HB1.out.size)
      clear HX7 HY7 HF7 HJ7 HM7 HI7
      go_wp2_with (go_at_call 10; refine (HA.out _).mono ?_; clear HA; rintro e w8 ⟨rfl, hb⟩; have K8 : Hid (Below w.heap.size w w8) := K7.out.trans (hb.mono K7.out.size); clear hb)
      go_ret
      exact ⟨rfl, K8.out⟩
end Go.Proofs.Ytpdlbbglbbmjmaa
