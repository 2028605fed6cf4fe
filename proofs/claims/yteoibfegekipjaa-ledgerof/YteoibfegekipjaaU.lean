/- layer 11: ledgers and rows beside each other -/
import Derived.Test.YteoibfegekipjaaS
import Derived.Test.YteoibfegekipjaaT
import Derived.WalkKit
import Derived.ProofKit
import Derived.Handy
import Derived.WalkLawsBesides
import Derived.WalkSpells
import Derived.BigQuiet
import Derived.BigCall
import Derived.Deep.QuietTactic
import Derived.Deep.Light
import Derived.Deep.OwnRows
import Derived.Laws.AppendOwnNone
import Derived.Laws.Strings3
import Derived.Laws.RangeAny
import Derived.Deep.RegionWith
import Derived.Lib.BitFns
import Derived.Lib.Walk
import Derived.Lib.Strings
import Derived.Lib.OthersKept
import Derived.Deep.CutBlock
import Derived.Deep.DeepCutAuto
import Derived.Deep.LoopGhost
import Derived.Deep.RegionHeld3
import Derived.Lib.SmallJoins
import Derived.Maps.AppendAt
import Derived.Laws.IdiomStrings
import Derived.Lib.AppendZeros
import Derived.Deep.WholeRow
import Derived.Laws.BitsAllLaws
import Derived.Lib.ConvBytes
import Derived.Deep.RegionLaw
import Derived.Maps.OwnSet
import Derived.Maps.OwnOps
import Derived.Maps.RangeWalk
import Derived.Maps.Ext
import Derived.DeepKeys4
import Derived.Laws.StructEq
import Derived.Shelf.SlSortCmp.NoneTotal
namespace Go.Proofs.Yteoibfegekipjaa
open Go.RowKit
set_option linter.unusedVariables false
set_option linter.unusedSimpArgs false
set_option maxRecDepth 20000
theorem Mp.nocell {w : World} {m : Nat} {L : List Num.Bal} (h : Mp w m L) (i : Nat) : w.cell? ⟨m, i, none⟩ = none := by
  obtain ⟨es, ⟨xs, c, h1, _⟩, _⟩ := h
  simp [World.cell?, h1]
/-- a ledger x, other ledgers, rows of balances; all new since w0 -/
structure Bk (w0 W : World) (q m : Nat) (L : List Num.Bal) (ls : List (Nat × Nat × List Num.Bal)) (rows : List (Option Addr × List Num.Bal)) : Prop where
  b : Below w0.heap.size w0 W
  x : Lg W q m L
  m0 : w0.heap.size ≤ m
  l : ∀ y ∈ ls, Lg W y.1 y.2.1 y.2.2 ∧ y.1 ≠ m ∧ y.2.1 ≠ m
  r : ∀ y ∈ rows, Bs W y.1 y.2
theorem Bk.below {w0 W W' : World} {q m : Nat} {L : List Num.Bal} {ls : List (Nat × Nat × List Num.Bal)} {rows : List (Option Addr × List Num.Bal)} (h : Bk w0 W q m L ls rows) (hb : Below W.heap.size W W') : Bk w0 W' q m L ls rows :=
  ⟨h.b.trans (hb.mono h.b.size), h.x.below hb, h.m0, fun y hy => ⟨(h.l y hy).1.below hb, (h.l y hy).2⟩, fun y hy => (h.r y hy).below hb⟩
theorem Bk.post {w0 W W' : World} {q m : Nat} {L L' : List Num.Bal} {ls : List (Nat × Nat × List Num.Bal)} {rows : List (Option Addr × List Num.Bal)} (h : Bk w0 W q m L ls rows) (hx : Lg W' q m L') (hg : W.grownBy W' (some m)) : Bk w0 W' q m L' ls rows :=
  ⟨h.b.grown hg h.b.size (fun k e => by cases e; exact h.m0), hx, h.m0, fun y hy => ⟨(h.l y hy).1.kept hg (by simp [(h.l y hy).2.1]) (by simp [(h.l y hy).2.2]), (h.l y hy).2⟩, fun y hy h0 => by
    obtain ⟨blk, off, h1, h2, h3⟩ := h.r y hy h0
    have hne : blk ≠ m := by
      intro e
      have h4 := h3 0 h0 0 (by omega)
      rw [e, h.x.m.nocell] at h4
      cases h4
    exact ⟨blk, off, h1, Nat.lt_of_lt_of_le h2 hg.size, fun i hi k hk => (World.cell?_of_block (a := ⟨blk, _, none⟩) (hg.block blk h2 (by simp [hne]))).trans (h3 i hi k hk)⟩⟩
theorem Bk.row {w0 W : World} {q m : Nat} {L : List Num.Bal} {ls : List (Nat × Nat × List Num.Bal)} {rows : List (Option Addr × List Num.Bal)} (h : Bk w0 W q m L ls rows) {a : Option Addr} {M : List Num.Bal} (hr : Bs W a M) : Bk w0 W q m L ls ((a, M) :: rows) :=
  ⟨h.b, h.x, h.m0, h.l, fun y hy => by rcases List.mem_cons.1 hy with rfl | hy; exact hr; exact h.r y hy⟩
theorem Bk.led {w0 W : World} {q m q' m' : Nat} {L M : List Num.Bal} {ls : List (Nat × Nat × List Num.Bal)} {rows : List (Option Addr × List Num.Bal)} (h : Bk w0 W q m L ls rows) (hl : Lg W q' m' M) (h1 : q' ≠ m) (h2 : m' ≠ m) : Bk w0 W q m L ((q', m', M) :: ls) rows :=
  ⟨h.b, h.x, h.m0, fun y hy => by rcases List.mem_cons.1 hy with rfl | hy; exact ⟨hl, h1, h2⟩; exact h.l y hy, h.r⟩
theorem es_below {w W : World} {a : Option Addr} {cap : Nat} {xs : List Ex} (he : Es w.heap.size w.heap.size w (.slice a xs.length cap) xs) (h : Below w.heap.size w W) : Es W.heap.size W.heap.size W (.slice a xs.length cap) xs := by
  obtain ⟨a', c', e0, h1⟩ := he
  injection e0 with e1 e2 e3
  subst e1 e3
  refine ⟨a, cap, rfl, fun h2 => ?_⟩
  obtain ⟨blk, off, h3, h4, h5, h6⟩ := h1 h2
  have := h.size
  exact ⟨blk, off, h3, by omega, by omega, fun i hi k hk => (h.cell (p := ⟨blk, off + i * 7 + k, none⟩) h4).trans (h6 i hi k hk)⟩
theorem good_len {L : List Num.Bal} (g : Num.Good L) : ∀ p ∈ L, p.1.2.2.length ≤ 281474976710656 := fun p hp => by have := (Num.wr_ok.1 (g.wr p hp)).2.2.2.2.2; omega
/-- entries, then a post of them -/
theorem bk_ents {w0 W : World} {q m : Nat} {L : List Num.Bal} {ls : List (Nat × Nat × List Num.Bal)} {rows : List (Option Addr × List Num.Bal)} (h : Bk w0 W q m L ls rows) (g : Num.Good L) (hl : L.length ≤ 100000) {xs : List Ex} (hx : xs.length ≤ 60) {a : Option Addr} {cap : Nat} (he : Es W.heap.size W.heap.size W (.slice a xs.length cap) xs) :
    Calls Try.prog 14 #[.slice a xs.length cap] W fun e W1 => ∃ v, e = .returned v ∧ Hid (Calls Try.prog 13 #[.pointer (some ⟨q, 0, none⟩), v] W1 fun e W2 => e = .returned (.tuple #[.int .i64 (Num.howf L (xs.map Ex.ent)), .int .i64 (Num.whyf L (xs.map Ex.ent))]) ∧ Hid (Bk w0 W2 q m (Num.post L (xs.map Ex.ent)) ls rows)) := by
  refine (xents xs a cap W he (by omega)).mono ?_
  rintro e W1 ⟨v, rfl, ho, hb⟩
  have hB := h.below hb
  obtain ⟨a1, c1, rfl, hc1, hE⟩ := own_es (m := m) ho rfl (.inl h.x.m.lt)
  refine ⟨_, rfl, (xpost q m L g hl xs (by omega) a1 xs.length c1 hc1 W1 hB.x hE).mono ?_⟩
  rintro e W2 ⟨rfl, k1, k2⟩
  exact ⟨rfl, hB.post k1 k2⟩
/-- what x has, told -/
theorem bk_told {w0 W : World} {q m : Nat} {L : List Num.Bal} {ls : List (Nat × Nat × List Num.Bal)} {rows : List (Option Addr × List Num.Bal)} (h : Bk w0 W q m L ls rows) {q' m' : Nat} {M : List Num.Bal} (hL : Lg W q' m' M) (g : Num.Good M) (hl : M.length ≤ 1000000) :
    Calls Try.prog 16 #[.pointer (some ⟨q', 0, none⟩)] W fun e W1 => ∃ a cap, e = .returned (.slice a M.length cap) ∧ Hid (Bk w0 W1 q m L ls ((a, M) :: rows)) := by
  refine (xtold q' m' M hl (good_len g) W hL).mono ?_
  rintro e W1 ⟨v, rfl, ho, hb⟩
  obtain ⟨a, cap, rfl, hc, hB⟩ := own_bs ho rfl
  exact ⟨a, cap, rfl, (h.below hb).row hB⟩
theorem bk_same {w0 W : World} {q m : Nat} {L : List Num.Bal} {ls : List (Nat × Nat × List Num.Bal)} {rows : List (Option Addr × List Num.Bal)} (h : Bk w0 W q m L ls rows) {M : List Num.Bal} (hl : M.length ≤ 1000000) {a a' : Option Addr} {cap cap' : Nat} (h1 : (a, M) ∈ rows) (h2 : (a', M) ∈ rows) :
    Calls Try.prog 15 #[.slice a M.length cap, .slice a' M.length cap'] W fun e W1 => e = .returned (.bool true) ∧ Hid (Bk w0 W1 q m L ls rows) := by
  refine (xsame M hl a cap a' cap' W (h.r _ h1) (h.r _ h2)).mono ?_
  rintro e W1 ⟨rfl, hb⟩
  exact ⟨rfl, h.below hb⟩
theorem bk_clone {w0 W : World} {q m : Nat} {L : List Num.Bal} {ls : List (Nat × Nat × List Num.Bal)} {rows : List (Option Addr × List Num.Bal)} (h : Bk w0 W q m L ls rows) (g : Num.Good L) (hl : L.length ≤ 1000000) :
    Calls Try.prog 29 #[.pointer (some ⟨q, 0, none⟩)] W fun e W1 => ∃ q' m', e = .returned (.pointer (some ⟨q', 0, none⟩)) ∧ Hid (Bk w0 W1 q m L ((q', m', L) :: ls) rows) := by
  refine (xcln q m L g hl W h.x).mono ?_
  rintro e W1 ⟨q', m', rfl, h1, h2, hL, hb⟩
  have hm := h.x.m.lt
  exact ⟨q', m', rfl, (h.below hb).led hL (by omega) (by omega)⟩
theorem bk_awake {w0 W : World} {q m : Nat} {L : List Num.Bal} {ls : List (Nat × Nat × List Num.Bal)} {rows : List (Option Addr × List Num.Bal)} (h : Bk w0 W q m L ls rows) :
    Calls Try.prog 10 #[] W fun e W1 => e = .returned (.bool true) ∧ Below w0.heap.size w0 W1 :=
  (xawake W).mono fun _ _ k => ⟨k.1, h.b.trans (k.2.mono h.b.size)⟩
theorem bk_new (w : World) : Calls Try.prog 11 #[] w fun e w1 => e = .returned (.pointer (some ⟨w.heap.size + 1, 0, none⟩)) ∧ Hid (Bk w w1 (w.heap.size + 1) w.heap.size [] [] []) :=
  (xnew w).mono fun _ _ k => ⟨k.1, k.2.2, k.2.1, Nat.le_refl _, by simp, by simp⟩
def swx (x : Ex) : Ex := ⟨x.o2, x.b2, x.s2, x.o, x.b, x.s, x.n⟩
def bkx (ys : List Ex) : List Ex := (ys.map swx).reverse
theorem bkx_ent (ys : List Ex) : (bkx ys).map Ex.ent = Num.bk (ys.map Ex.ent) := by
  unfold bkx Num.bk
  rw [List.map_reverse, List.map_map, List.map_map]
  rfl
theorem bkx_len (ys : List Ex) : (bkx ys).length = ys.length := by simp [bkx]
theorem bkx_drop (ys : List Ex) {j : Nat} (h : j < ys.length) : bkx (ys.drop (j + 1)) ++ [swx ys[j]] = bkx (ys.drop j) := by
  rw [List.drop_eq_getElem_cons h]
  unfold bkx
  rw [List.map_cons, List.reverse_cons]
end Go.Proofs.Yteoibfegekipjaa
