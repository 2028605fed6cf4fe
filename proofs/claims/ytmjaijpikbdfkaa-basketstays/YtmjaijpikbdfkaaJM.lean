/- layer 14: a book, the document's list, and blocks of neither -/
import Derived.Test.YtmjaijpikbdfkaaJG
import Derived.WalkKit
import Derived.ProofKit
import Derived.Handy
import Derived.WalkLawsBesides
import Derived.WalkSpells
import Derived.BigQuiet
import Derived.BigCall
import Derived.Deep.QuietTactic
import Derived.Deep.Light
import Derived.Deep.OwnRows
import Derived.Laws.AppendOwnNone
import Derived.Laws.Strings3
import Derived.Laws.RangeAny
import Derived.Deep.RegionWith
import Derived.Lib.BitFns
import Derived.Lib.Walk
import Derived.Lib.Strings
import Derived.Lib.OthersKept
import Derived.Deep.CutBlock
import Derived.Deep.DeepCutAuto
import Derived.Deep.LoopGhost
import Derived.Deep.RegionHeld3
import Derived.Lib.SmallJoins
import Derived.Maps.AppendAt
import Derived.Laws.IdiomStrings
import Derived.Lib.AppendZeros
import Derived.Deep.WholeRow
import Derived.Laws.BitsAllLaws
import Derived.Lib.ConvBytes
import Derived.Deep.RegionLaw
import Derived.Maps.OwnSet
import Derived.Maps.OwnOps
import Derived.Maps.RangeWalk
import Derived.Maps.Ext
import Derived.DeepKeys4
import Derived.Laws.StructEq
import Derived.Deep.MidRow
import Derived.Lib.Bytealg
import Derived.Lib.Overlaps
import Derived.Lib.AppendZerosOnto
import Derived.Laws.MakeOwn
import Derived.Deep.Upon
import Derived.Sort.OwnSortedInts
namespace Go.Proofs.Ytmjaijpikbdfkaa
open Go.RowKit
set_option linter.unusedVariables false
set_option linter.unusedSimpArgs false
set_option maxRecDepth 20000
def PlA (G : Nat → Prop) (B : Nat) (w0 w : World) (p m : Nat) (v : Value) (r : List Bk) (ys : List Bm) (k : Nat) : Prop := ∃ (F : Nat → Prop) (L : List En), Bo F w p m L ∧ (∀ q, F q → B ≤ q) ∧ Rel L r ∧ L.length ≤ k ∧ w.ownsRow B 25 10 v ys.length (rcs bcs ys) ∧ (∀ g, v.ownBlock = some g → ¬ F g) ∧ (∀ y ∈ ys, Ha B w y) ∧ Below B w0 w ∧ (∀ q, G q → ¬ F q ∧ v.ownBlock ≠ some q ∧ B ≤ q ∧ q < w.heap.size)
theorem PlA.pl {G : Nat → Prop} {B : Nat} {w0 w : World} {p m : Nat} {v : Value} {r : List Bk} {ys : List Bm} {k : Nat} (h : PlA G B w0 w p m v r ys k) : Pl B w0 w p m v r ys k := by
  obtain ⟨F, L, h1, h2, h3, h4, h5, h6, h7, h8, _⟩ := h
  exact ⟨F, L, h1, h2, h3, h4, h5, h6, h7, h8⟩
theorem PlA.of {B : Nat} {w0 w w' : World} {p m : Nat} {v : Value} {r : List Bk} {ys : List Bm} {k : Nat} (h : Pl B w0 w p m v r ys k) (hb : Below w.heap.size w w') : PlA (fun q => w.heap.size ≤ q ∧ q < w'.heap.size) B w0 w' p m v r ys k := by
  have hB := h.size
  obtain ⟨F, L, h1, h2, h3, h4, h5, h6, h7, h8⟩ := h
  refine ⟨fun q => F q ∧ q < w.heap.size, L, h1.tight.below hb, fun q hq => h2 q hq.1, h3, h4, own_below h5 hb, fun g hg hF => h6 g hg hF.1, fun y hy => (h7 y hy).keep (hb.mono hB), h8.trans (hb.mono hB), fun q hq => ⟨fun hF => by omega, fun e => ?_, Nat.le_trans hB hq.1, hq.2⟩⟩
  have := (h5.lt q e).2
  omega
theorem PlA.below {G : Nat → Prop} {B : Nat} {w0 w w' : World} {p m : Nat} {v : Value} {r : List Bk} {ys : List Bm} {k : Nat} (h : PlA G B w0 w p m v r ys k) (hb : Below w.heap.size w w') : PlA G B w0 w' p m v r ys k := by
  have hB := h.pl.size
  obtain ⟨F, L, h1, h2, h3, h4, h5, h6, h7, h8, h9⟩ := h
  exact ⟨F, L, h1.below hb, h2, h3, h4, own_below h5 hb, h6, fun y hy => (h7 y hy).keep (hb.mono hB), h8.trans (hb.mono hB), fun q hq => ⟨(h9 q hq).1, (h9 q hq).2.1, (h9 q hq).2.2.1, Nat.lt_of_lt_of_le (h9 q hq).2.2.2 hb.size⟩⟩
theorem PlA.mono {G : Nat → Prop} {B : Nat} {w0 w : World} {p m : Nat} {v : Value} {r : List Bk} {ys : List Bm} {k j : Nat} (h : PlA G B w0 w p m v r ys k) (hk : k ≤ j) : PlA G B w0 w p m v r ys j := by
  obtain ⟨F, L, h1, h2, h3, h4, h5⟩ := h
  exact ⟨F, L, h1, h2, h3, Nat.le_trans h4 hk, h5⟩
theorem PlA.doc {G : Nat → Prop} {B : Nat} {w0 w w' : World} {p m : Nat} {v v' : Value} {r : List Bk} {ys zs : List Bm} {k : Nat} {x : Bm} (h : PlA G B w0 w p m v r ys k) (hx : Ha B w x) (hb : Below w.heap.size w w') (hz : v' = v ∧ zs = ys ∨ (w'.ownsRow w.heap.size 25 10 v' zs.length (rcs bcs zs) ∧ ∀ z ∈ zs, z = x ∨ z ∈ ys)) : PlA G B w0 w' p m v' r zs k := by
  rcases hz with ⟨rfl, rfl⟩ | ⟨ho, hm⟩
  · exact h.below hb
  · have hB := h.pl.size
    obtain ⟨F, L, h1, h2, h3, h4, h5, h6, h7, h8, h9⟩ := h
    refine ⟨fun q => F q ∧ q < w.heap.size, L, h1.tight.below hb, fun q hq => h2 q hq.1, h3, h4, own_mono ho hB, fun g hg hF => ?_, fun z hz => ?_, h8.trans (hb.mono hB), fun q hq => ⟨fun hF => (h9 q hq).1 hF.1, fun e => ?_, (h9 q hq).2.2.1, Nat.lt_of_lt_of_le (h9 q hq).2.2.2 hb.size⟩⟩
    · have := (ho.lt g hg).1
      omega
    · rcases hm z hz with rfl | hz
      · exact hx.keep (hb.mono hB)
      · exact (h7 z hz).keep (hb.mono hB)
    · have := (ho.lt q e).1
      have := (h9 q hq).2.2.2
      omega
theorem PlA.set {G : Nat → Prop} {B : Nat} {w0 w : World} {p m : Nat} {v : Value} {r : List Bk} {ys : List Bm} {k : Nat} (h : PlA G B w0 w p m v r ys k) (g : Gd r k) (hk : k ≤ 1000000) (x : Bm) (hx : Ha w.heap.size w x) (hc : x.b.cuts.length ≤ 1000000) (hb : x.b.bar.length ≤ 1000000) :
    Calls Try.prog 18 #[.pointer (some ⟨p, 0, none⟩), .agg (bcs x).toArray] w (fun e w' => e = .returned (.int .i64 (setE r x.b (bkE C0 x.b) : Nat)) ∧ Hid (PlA G B w0 w' p m v (setL r x.b (bkE C0 x.b)) ys (k + 1) ∧ ∀ q, G q → w'.heap[q]? = w.heap[q]?)) := by
  have hB := h.pl.size
  obtain ⟨F, L, h1, h2, h3, h4, h5, h6, h7, h8, h9⟩ := h
  refine (xset h1 h3 (Nat.le_trans h4 hk) (Nat.le_trans g.2.2 hk) x hx hc hb _ rfl).mono ?_
  rintro e w' ⟨rfl, hh⟩
  obtain ⟨L', k1, k2, k3, k4⟩ := hh.out
  have hbw := k3.below h2 hB
  refine ⟨rfl, ⟨_, L', k1, fun q hq => ?_, k2, by omega, own_ag h5 (fun g hg => k3.block g (h5.lt g hg).2 (h6 g hg)), fun g hg hF => ?_, fun y hy => (h7 y hy).keep hbw, h8.trans hbw, fun q hq => ⟨fun hF => ?_, (h9 q hq).2.1, (h9 q hq).2.2.1, Nat.lt_of_lt_of_le (h9 q hq).2.2.2 k3.size⟩⟩, fun q hq => k3.block q (h9 q hq).2.2.2 (h9 q hq).1⟩
  · rcases hq with hq | hq
    · exact h2 q hq
    · exact Nat.le_trans hB hq
  · rcases hF with hF | hF
    · exact h6 g hg hF
    · have := (h5.lt g hg).2
      omega
  · rcases hF with hF | hF
    · exact (h9 q hq).1 hF
    · have := (h9 q hq).2.2.2
      omega
theorem PlA.rset {G : Nat → Prop} {B : Nat} {w0 w : World} {p m : Nat} {a : Option Addr} {cap k : Nat} {r : List Bk} {ys : List Bm} (h : PlA G B w0 w p m (.slice a ys.length cap) r ys k) (hs : Srt (ys.map (·.b))) (hl : ys.length ≤ 100000) (x : Bm) (hx : Ha B w x) (hc : x.b.cuts.length ≤ 1000000) (hb : x.b.bar.length ≤ 1000000) :
    Calls Try.prog 17 #[.slice a ys.length cap, .agg (bcs x).toArray] w (fun e w' => ∃ v' zs, e = .returned (.tuple #[v', .int .i64 (setE (ys.map (·.b)) x.b (bkE C0 x.b) : Nat)]) ∧ Hid (PlA G B w0 w' p m v' r zs k ∧ zs.map (·.b) = setL (ys.map (·.b)) x.b (bkE C0 x.b) ∧ Below w.heap.size w w')) := by
  obtain ⟨a', cap', e, hr⟩ := h.pl.row
  injection e with e1 _ e3
  subst e1
  refine (Go.Proofs.Ytmjaijpikbdfkaa.rset ys a cap x w hr hl hs (hx.mono h.pl.size) (by omega) (by omega) _ rfl).mono ?_
  rintro e w' ⟨v', zs, rfl, hh⟩
  obtain ⟨h1, h2, h3⟩ := hh.out
  exact ⟨v', zs, rfl, h.doc hx h1 h3, h2, h1⟩
theorem PlA.write {G : Nat → Prop} {B : Nat} {w0 w w' : World} {p m : Nat} {v : Value} {r : List Bk} {ys : List Bm} {k : Nat} (h : PlA G B w0 w p m v r ys k) (hk : Kf G w w') : PlA G B w0 w' p m v r ys k := by
  have hB := h.pl.size
  obtain ⟨F, L, h1, h2, h3, h4, h5, h6, h7, h8, h9⟩ := h
  have hbw := hk.below (fun q hq => (h9 q hq).2.2.1) hB
  exact ⟨F, L, h1.ag (hk.ag (fun q hF hG => (h9 q hG).1 hF)), h2, h3, h4, own_ag h5 (fun g hg => hk.block g (h5.lt g hg).2 (fun hG => (h9 g hG).2.1 hg)), h6, fun y hy => (h7 y hy).keep hbw, h8.trans hbw, fun q hq => ⟨(h9 q hq).1, (h9 q hq).2.1, (h9 q hq).2.2.1, Nat.lt_of_lt_of_le (h9 q hq).2.2.2 hk.size⟩⟩
theorem kf_set {G : Nat → Prop} {w : World} {g j : Nat} {u : Value} (hg : G g) : Kf G w (w.setCell ⟨g, j, none⟩ u) := by
  have h := grown_set w g j u
  exact ⟨h.os, h.tape, h.output, h.size, fun k hk hn => h.block k hk (fun e => by injection e with e; exact hn (e ▸ hg))⟩
/-- a row, as far as it can be written -/
def Rq (G : Nat → Prop) (w : World) (a : Option Addr) (T n : Nat) : Prop := 0 < n → ∃ g cur, a = some ⟨g, 0, none⟩ ∧ G g ∧ Bx w g cur T ∧ n ≤ cur.size
theorem Rq.of_own {G : Nat → Prop} {w : World} {B e k n cap : Nat} {a : Option Addr} {cs : List Value} (h : w.ownsRow B e k (.slice a n cap) n cs) (hG : ∀ g, B ≤ g → g < w.heap.size → G g) : Rq G w a e (n * k) := by
  intro h0
  rcases h.2 with ⟨_, h2⟩ | ⟨g, cap', cur, hv, hB, hg, hnc, _, hcs, _⟩
  · rw [h2, Nat.zero_mul] at h0
    exact absurd h0 (Nat.lt_irrefl 0)
  · injection hv with e1 _ _
    exact ⟨g, cur, e1, hG g hB (Array.getElem?_eq_some_iff.1 hg).1, hg, by rw [hcs]; exact Nat.mul_le_mul_right k hnc⟩
theorem Rq.gk {G : Nat → Prop} {w w' : World} {a : Option Addr} {T n : Nat} (h : Rq G w a T n) (hk : ∀ q, G q → w'.heap[q]? = w.heap[q]?) : Rq G w' a T n := fun h0 => by
  obtain ⟨g, cur, h1, h2, h3, h4⟩ := h h0
  exact ⟨g, cur, h1, h2, (hk g h2).trans h3, h4⟩
theorem Rq.keep {G : Nat → Prop} {w w' : World} {a : Option Addr} {T n : Nat} (h : Rq G w a T n) (hb : Below w.heap.size w w') : Rq G w' a T n := fun h0 => by
  obtain ⟨g, cur, h1, h2, h3, h4⟩ := h h0
  exact ⟨g, cur, h1, h2, h3.keep hb, h4⟩
theorem Rq.set {G : Nat → Prop} {w : World} {a : Option Addr} {T n : Nat} (h : Rq G w a T n) (g2 j : Nat) (u : Value) : Rq G (w.setCell ⟨g2, j, none⟩ u) a T n := fun h0 => by
  obtain ⟨g, cur, h1, h2, h3, h4⟩ := h h0
  by_cases e : g = g2
  · subst e
    exact ⟨g, cur.setIfInBounds j u, h1, h2, h3.setc j u, by simpa using h4⟩
  · exact ⟨g, cur, h1, h2, h3.oset e j u, h4⟩
theorem Rq.mono {G H : Nat → Prop} {w : World} {a : Option Addr} {T n : Nat} (h : Rq G w a T n) (hG : ∀ g, G g → H g) : Rq H w a T n := fun h0 => by
  obtain ⟨g, cur, h1, h2, h3, h4⟩ := h h0
  exact ⟨g, cur, h1, hG g h2, h3, h4⟩
/-- blocks keep their shape; all but those of rows of cuts are as they were -/
def Sh (w w' : World) : Prop := w.heap.size ≤ w'.heap.size ∧ ∀ g cur T, Bx w g cur T → ∃ cur', Bx w' g cur' T ∧ cur'.size = cur.size ∧ (T ≠ 53 → cur' = cur)
theorem Sh.refl (w : World) : Sh w w := ⟨Nat.le_refl _, fun g cur T h => ⟨cur, h, rfl, fun _ => rfl⟩⟩
theorem Sh.set {w w' : World} (h : Sh w w') {g2 : Nat} {cur2 : Array Value} (hg : Bx w' g2 cur2 53) (j : Nat) (u : Value) : Sh w (w'.setCell ⟨g2, j, none⟩ u) := by
  refine ⟨Nat.le_trans h.1 (grown_set w' g2 j u).size, fun g cur T hb => ?_⟩
  obtain ⟨cur', k1, k2, k3⟩ := h.2 g cur T hb
  by_cases e : g = g2
  · subst e
    have hT : T = 53 := by
      unfold Bx at k1 hg
      rw [k1] at hg
      injection hg with hg
      injection hg
    exact ⟨cur'.setIfInBounds j u, k1.setc j u, by simpa using k2, fun hn => absurd hT hn⟩
  · exact ⟨cur', k1.oset e j u, k2, k3⟩
theorem Rq.sh {G : Nat → Prop} {w w' : World} {a : Option Addr} {T n : Nat} (h : Rq G w a T n) (hs : Sh w w') : Rq G w' a T n := fun h0 => by
  obtain ⟨g, cur, h1, h2, h3, h4⟩ := h h0
  obtain ⟨cur', k1, k2, _⟩ := hs.2 g cur T h3
  exact ⟨g, cur', h1, h2, k1, by omega⟩
theorem Sh.own {w w' : World} (hs : Sh w w') {B e k n : Nat} {v : Value} {cs : List Value} (h : w.ownsRow B e k v n cs) (he : e ≠ 53) : w'.ownsRow B e k v n cs := by
  refine ⟨h.1, ?_⟩
  rcases h.2 with h2 | ⟨g, cap, cur, rfl, hB, hg, hr⟩
  · exact .inl h2
  · obtain ⟨cur', k1, _, k3⟩ := hs.2 g cur e hg
    rw [k3 he] at k1
    exact .inr ⟨g, cap, cur, rfl, hB, k1, hr⟩
theorem own_zero (w : World) (T k : Nat) : (w.alloc (.cells #[] T)).ownsRow w.heap.size T k (.slice (some ⟨w.heap.size, 0, none⟩) 0 0) 0 [] := ⟨by simp, .inr ⟨w.heap.size, 0, #[], rfl, Nat.le_refl _, Bx.new w #[] T, Nat.le_refl _, Nat.zero_le _, by simp, by simp⟩⟩
theorem cop_cuts {w : World} {a : Option Addr} {xs : List Ct} (cap : Nat) (h : Cts w.heap.size w a xs) (hl : xs.length ≤ 1000000) : ∃ a' c' w', (Builtin.append_ #[22, 22] 22 #[.slice (some ⟨w.heap.size, 0, none⟩) 0 0, .slice a xs.length cap]).run Try.prog (w.alloc (.cells #[] 53)) = .ok (.slice a' xs.length c') w' ∧ w'.ownsRow w.heap.size 53 3 (.slice a' xs.length c') xs.length (rcs ccs xs) ∧ Below w.heap.size w w' := by
  obtain ⟨v', w', hr, ho, hg, hv⟩ := app_all (B := w.heap.size) Try.underlying22 info53 rfl (by omega) ccs_len ccs_one (own_zero w 53 3) (by simp) a cap xs (h.rw.below (below_a w _)) (by omega) (by unfold maxLen; omega)
  rw [Nat.zero_add, List.nil_append] at ho
  obtain ⟨a', c', rfl, _⟩ := own_read ho ho.1
  exact ⟨a', c', w', hr, ho, (below_a w _).grown hg (by simp) (fun j hj => by simp [Value.ownBlock] at hj; omega)⟩
theorem cop_bars {w : World} {a : Option Addr} {xs : List Int} (cap : Nat) (h : Ins w.heap.size w a xs) (hl : xs.length ≤ 1000000) : ∃ a' c' w', (Builtin.append_ #[23, 23] 23 #[.slice (some ⟨w.heap.size, 0, none⟩) 0 0, .slice a xs.length cap]).run Try.prog (w.alloc (.cells #[] 3)) = .ok (.slice a' xs.length c') w' ∧ w'.ownsRow w.heap.size 3 1 (.slice a' xs.length c') xs.length (rcs ics xs) ∧ Below w.heap.size w w' := by
  obtain ⟨v', w', hr, ho, hg, hv⟩ := app_all (B := w.heap.size) Try.underlying23 info3 rfl (by omega) ics_len ics_one (own_zero w 3 1) (by simp) a cap xs (h.rw.below (below_a w _)) (by omega) (by unfold maxLen; omega)
  rw [Nat.zero_add, List.nil_append] at ho
  obtain ⟨a', c', rfl, _⟩ := own_read ho ho.1
  exact ⟨a', c', w', hr, ho, (below_a w _).grown hg (by simp) (fun j hj => by simp [Value.ownBlock] at hj; omega)⟩
end Go.Proofs.Ytmjaijpikbdfkaa
