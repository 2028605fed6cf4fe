/- layer 14: a book and the document's list, side by side -/
import Derived.Test.YtmjaijpikbdfkaaJC
import Derived.Test.YtmjaijpikbdfkaaJF
import Derived.WalkKit
import Derived.ProofKit
import Derived.Handy
import Derived.WalkLawsBesides
import Derived.WalkSpells
import Derived.BigQuiet
import Derived.BigCall
import Derived.Deep.QuietTactic
import Derived.Deep.Light
import Derived.Deep.OwnRows
import Derived.Laws.AppendOwnNone
import Derived.Laws.Strings3
import Derived.Laws.RangeAny
import Derived.Deep.RegionWith
import Derived.Lib.BitFns
import Derived.Lib.Walk
import Derived.Lib.Strings
import Derived.Lib.OthersKept
import Derived.Deep.CutBlock
import Derived.Deep.DeepCutAuto
import Derived.Deep.LoopGhost
import Derived.Deep.RegionHeld3
import Derived.Lib.SmallJoins
import Derived.Maps.AppendAt
import Derived.Laws.IdiomStrings
import Derived.Lib.AppendZeros
import Derived.Deep.WholeRow
import Derived.Laws.BitsAllLaws
import Derived.Lib.ConvBytes
import Derived.Deep.RegionLaw
import Derived.Maps.OwnSet
import Derived.Maps.OwnOps
import Derived.Maps.RangeWalk
import Derived.Maps.Ext
import Derived.DeepKeys4
import Derived.Laws.StructEq
import Derived.Deep.MidRow
import Derived.Lib.Bytealg
import Derived.Lib.Overlaps
import Derived.Lib.AppendZerosOnto
import Derived.Laws.MakeOwn
import Derived.Deep.Upon
import Derived.Sort.OwnSortedInts
namespace Go.Proofs.Ytmjaijpikbdfkaa
open Go.RowKit
set_option linter.unusedVariables false
set_option linter.unusedSimpArgs false
set_option maxRecDepth 20000
theorem own_ag {w w' : World} {B e k n : Nat} {v : Value} {cs : List Value} (h : w.ownsRow B e k v n cs) (ha : ∀ g, v.ownBlock = some g → w'.heap[g]? = w.heap[g]?) : w'.ownsRow B e k v n cs := by
  refine ⟨h.1, ?_⟩
  rcases h.2 with h2 | ⟨g, cap, cur, rfl, hB, hg, hr⟩
  · exact .inl h2
  · exact .inr ⟨g, cap, cur, rfl, hB, (ha g (by simp [Value.ownBlock])).trans hg, hr⟩
def Pl (B : Nat) (w0 w : World) (p m : Nat) (v : Value) (r : List Bk) (ys : List Bm) (k : Nat) : Prop := ∃ (F : Nat → Prop) (L : List En), Bo F w p m L ∧ (∀ q, F q → B ≤ q) ∧ Rel L r ∧ L.length ≤ k ∧ w.ownsRow B 25 10 v ys.length (rcs bcs ys) ∧ (∀ g, v.ownBlock = some g → ¬ F g) ∧ (∀ y ∈ ys, Ha B w y) ∧ Below B w0 w
def Gd (r : List Bk) (k : Nat) : Prop := Srt r ∧ (∀ b ∈ r, bkE C0 b = 0) ∧ r.length ≤ k
theorem Gd.nil : Gd [] 0 := ⟨List.Pairwise.nil, fun b hb => (List.not_mem_nil hb).elim, Nat.le_refl _⟩
theorem Gd.mono {r : List Bk} {k j : Nat} (h : Gd r k) (hk : k ≤ j) : Gd r j := ⟨h.1, h.2.1, Nat.le_trans h.2.2 hk⟩
theorem setL_mem {r : List Bk} {b c : Bk} {E : Nat} (h : c ∈ setL r b E) : c ∈ r ∨ (c = b ∧ E = 0) := by
  unfold setL at h
  split at h
  · rename_i h0
    rcases ins_mem.1 h with h | h
    · refine .inr ⟨h, ?_⟩
      unfold setE at h0
      by_cases hE : E = 0
      · exact hE
      · rw [if_pos hE] at h0
        exact h0
    · exact .inl h
  · exact .inl h
theorem Gd.set {r : List Bk} {k : Nat} (h : Gd r k) (b : Bk) : Gd (setL r b (bkE C0 b)) (k + 1) :=
  ⟨setL_srt h.1 _ _, fun c hc => by
    rcases setL_mem hc with hc | ⟨rfl, hc⟩
    · exact h.2.1 c hc
    · exact hc, Nat.le_trans (setL_len _ _ _) (Nat.succ_le_succ h.2.2)⟩
theorem Pl.mono {B : Nat} {w0 w : World} {p m : Nat} {v : Value} {r : List Bk} {ys : List Bm} {k j : Nat} (h : Pl B w0 w p m v r ys k) (hk : k ≤ j) : Pl B w0 w p m v r ys j := by
  obtain ⟨F, L, h1, h2, h3, h4, h5⟩ := h
  exact ⟨F, L, h1, h2, h3, Nat.le_trans h4 hk, h5⟩
theorem Pl.size {B : Nat} {w0 w : World} {p m : Nat} {v : Value} {r : List Bk} {ys : List Bm} {k : Nat} (h : Pl B w0 w p m v r ys k) : B ≤ w.heap.size := by
  obtain ⟨F, L, h1, h2, _⟩ := h
  exact Nat.le_trans (h2 p h1.fp) (Nat.le_of_lt h1.lt)
theorem Pl.bel {B : Nat} {w0 w : World} {p m : Nat} {v : Value} {r : List Bk} {ys : List Bm} {k : Nat} (h : Pl B w0 w p m v r ys k) : Below B w0 w := by
  obtain ⟨F, L, h1, h2, _, _, _, _, _, h3⟩ := h
  exact h3
theorem Pl.below {B : Nat} {w0 w w' : World} {p m : Nat} {v : Value} {r : List Bk} {ys : List Bm} {k : Nat} (h : Pl B w0 w p m v r ys k) (hb : Below w.heap.size w w') : Pl B w0 w' p m v r ys k := by
  have hB := h.size
  obtain ⟨F, L, h1, h2, h3, h4, h5, h6, h7, h8⟩ := h
  exact ⟨F, L, h1.below hb, h2, h3, h4, own_below h5 hb, h6, fun y hy => (h7 y hy).keep (hb.mono hB), h8.trans (hb.mono hB)⟩
theorem Pl.row {B : Nat} {w0 w : World} {p m : Nat} {v : Value} {r : List Bk} {ys : List Bm} {k : Nat} (h : Pl B w0 w p m v r ys k) : ∃ a cap, v = .slice a ys.length cap ∧ Rw 10 bcs w a ys := by
  obtain ⟨F, L, h1, h2, h3, h4, h5, _⟩ := h
  obtain ⟨a, cap, e, _, hr⟩ := own_rw bcs_len h5 rfl
  exact ⟨a, cap, e, hr⟩
theorem Pl.ha {B : Nat} {w0 w : World} {p m : Nat} {v : Value} {r : List Bk} {ys : List Bm} {k : Nat} (h : Pl B w0 w p m v r ys k) : ∀ y ∈ ys, Ha w.heap.size w y := by
  have hB := h.size
  obtain ⟨F, L, h1, h2, h3, h4, h5, h6, h7, _⟩ := h
  exact fun y hy => (h7 y hy).mono hB
/-- the document's Set is done -/
theorem Pl.doc {B : Nat} {w0 w w' : World} {p m : Nat} {v v' : Value} {r : List Bk} {ys zs : List Bm} {k : Nat} {x : Bm} (h : Pl B w0 w p m v r ys k) (hx : Ha B w x) (hb : Below w.heap.size w w') (hz : v' = v ∧ zs = ys ∨ (w'.ownsRow w.heap.size 25 10 v' zs.length (rcs bcs zs) ∧ ∀ z ∈ zs, z = x ∨ z ∈ ys)) : Pl B w0 w' p m v' r zs k := by
  rcases hz with ⟨rfl, rfl⟩ | ⟨ho, hm⟩
  · exact h.below hb
  · have hB := h.size
    obtain ⟨F, L, h1, h2, h3, h4, h5, h6, h7, h8⟩ := h
    refine ⟨fun q => F q ∧ q < w.heap.size, L, h1.tight.below hb, fun q hq => h2 q hq.1, h3, h4, own_mono ho hB, fun g hg hF => ?_, fun z hz => ?_, h8.trans (hb.mono hB)⟩
    · have := (ho.lt g hg).1
      omega
    · rcases hm z hz with rfl | hz
      · exact hx.keep (hb.mono hB)
      · exact (h7 z hz).keep (hb.mono hB)
/-- Set of the program, beside the document's list -/
theorem Pl.set {B : Nat} {w0 w : World} {p m : Nat} {v : Value} {r : List Bk} {ys : List Bm} {k : Nat} (h : Pl B w0 w p m v r ys k) (g : Gd r k) (hk : k ≤ 1000000) (x : Bm) (hx : Ha w.heap.size w x) (hc : x.b.cuts.length ≤ 1000000) (hb : x.b.bar.length ≤ 1000000) :
    Calls Try.prog 18 #[.pointer (some ⟨p, 0, none⟩), .agg (bcs x).toArray] w (fun e w' => e = .returned (.int .i64 (setE r x.b (bkE C0 x.b) : Nat)) ∧ Hid (Pl B w0 w' p m v (setL r x.b (bkE C0 x.b)) ys (k + 1))) := by
  have hB := h.size
  obtain ⟨F, L, h1, h2, h3, h4, h5, h6, h7, h8⟩ := h
  refine (xset h1 h3 (Nat.le_trans h4 hk) (Nat.le_trans g.2.2 hk) x hx hc hb _ rfl).mono ?_
  rintro e w' ⟨rfl, hh⟩
  obtain ⟨L', k1, k2, k3, k4⟩ := hh.out
  have hbw := k3.below h2 hB
  refine ⟨rfl, _, L', k1, fun q hq => ?_, k2, by omega, own_ag h5 (fun g hg => k3.block g (h5.lt g hg).2 (h6 g hg)), fun g hg hF => ?_, fun y hy => (h7 y hy).keep hbw, h8.trans hbw⟩
  · rcases hq with hq | hq
    · exact h2 q hq
    · exact Nat.le_trans hB hq
  · rcases hF with hF | hF
    · exact h6 g hg hF
    · have := (h5.lt g hg).2
      omega
theorem Pl.gr {B : Nat} {w0 w : World} {p m : Nat} {v : Value} {r : List Bk} {ys : List Bm} {k : Nat} (h : Pl B w0 w p m v r ys k) (g : Gd r k) (hk : k ≤ 1000000) : ∃ F L, Bo F w p m L ∧ Gr L r := by
  obtain ⟨F, L, h1, h2, h3, h4, _⟩ := h
  exact ⟨F, L, h1, h3, g.1, g.2.1, Nat.le_trans h4 hk, Nat.le_trans g.2.2 hk⟩
theorem Pl.shows {B : Nat} {w0 w : World} {p m : Nat} {a : Option Addr} {cap k : Nat} {r : List Bk} {ys : List Bm} (h : Pl B w0 w p m (.slice a ys.length cap) r ys k) (g : Gd r k) (hk : k ≤ 1000000) (hy : ys.map (fun y : Bm => y.b) = r) : Calls Try.prog 19 #[.pointer (some ⟨p, 0, none⟩), .slice a ys.length cap] w (BB true w) := by
  obtain ⟨F, L, h1, h2⟩ := h.gr g hk
  obtain ⟨a', cap', e, hr⟩ := h.row
  injection e with e1 _ e3
  subst e1
  subst hy
  exact xshows ys h1 h2 a cap hr h.ha
theorem Pl.start {w0 w : World} (h : Bo (fun k => w0.heap.size ≤ k) w (w0.heap.size + 1) w0.heap.size []) (hb : Below w0.heap.size w0 w) : Pl w0.heap.size w0 w (w0.heap.size + 1) w0.heap.size (.slice none 0 0) [] [] 0 :=
  ⟨fun k => w0.heap.size ≤ k, [], h, fun q hq => hq, Rel.new, Nat.le_refl _, World.ownsRow_nil _ _ _ _, (fun g hg => by cases hg), (fun y hy => (List.not_mem_nil hy).elim), hb⟩
/-- the document's Set, beside a book -/
theorem Pl.rset {B : Nat} {w0 w : World} {p m : Nat} {a : Option Addr} {cap k : Nat} {r : List Bk} {ys : List Bm} (h : Pl B w0 w p m (.slice a ys.length cap) r ys k) (hs : Srt (ys.map (·.b))) (hl : ys.length ≤ 100000) (x : Bm) (hx : Ha B w x) (hc : x.b.cuts.length ≤ 1000000) (hb : x.b.bar.length ≤ 1000000) :
    Calls Try.prog 17 #[.slice a ys.length cap, .agg (bcs x).toArray] w (fun e w' => ∃ v' zs, e = .returned (.tuple #[v', .int .i64 (setE (ys.map (·.b)) x.b (bkE C0 x.b) : Nat)]) ∧ Hid (Pl B w0 w' p m v' r zs k ∧ zs.map (·.b) = setL (ys.map (·.b)) x.b (bkE C0 x.b) ∧ zs.length ≤ ys.length + 1)) := by
  obtain ⟨a', cap', e, hr⟩ := h.row
  injection e with e1 _ e3
  subst e1
  refine (Go.Proofs.Ytmjaijpikbdfkaa.rset ys a cap x w hr hl hs (hx.mono h.size) (by omega) (by omega) _ rfl).mono ?_
  rintro e w' ⟨v', zs, rfl, hh⟩
  obtain ⟨h1, h2, h3⟩ := hh.out
  refine ⟨v', zs, rfl, h.doc hx h1 h3, h2, ?_⟩
  have h4 := congrArg List.length h2
  rw [List.length_map] at h4
  rw [h4]
  exact Nat.le_trans (setL_len _ _ _) (by rw [List.length_map]; omega)
end Go.Proofs.Ytmjaijpikbdfkaa
