/- What the law DiskStays lays by: texts and numbers of four files; a crash, and a second one. -/
import Derived.Test.YtfdebooimbbdbaaR
import Derived.WalkKit
import Derived.ProofKit
import Derived.Handy
import Derived.WalkLawsBesides
import Derived.WalkSpells
import Derived.BigQuiet
import Derived.BigCall
import Derived.Deep.QuietTactic
import Derived.Deep.Light
import Derived.Deep.OwnRows
import Derived.Laws.AppendOwnNone
import Derived.Laws.Strings3
import Derived.Laws.RangeAny
import Derived.Deep.RegionWith
import Derived.Lib.BitFns
import Derived.Lib.Walk
import Derived.Lib.Strings
import Derived.Lib.OthersKept
import Derived.Deep.CutBlock
import Derived.Deep.DeepCutAuto
import Derived.Deep.LoopGhost
import Derived.Deep.RegionHeld3
import Derived.Lib.SmallJoins
import Derived.Maps.AppendAt
import Derived.Laws.IdiomStrings
import Derived.Lib.AppendZeros
import Derived.Deep.WholeRow
namespace Go.Proofs.Ytfdebooimbbdbaa
open Go.RowKit
set_option linter.unusedVariables false
set_option linter.unusedSimpArgs false
def upt (f : Nat → ByteArray) (k j : Nat) : ByteArray := if j < k then f j else ⟨#[]⟩
def upn (g : Nat → Nat) (k j : Nat) : Nat := if j < k then g j else 0
def scells (f : Nat → ByteArray) (k : Nat) : Array Value := #[.string (upt f k 0), .string (upt f k 1), .string (upt f k 2), .string (upt f k 3)]
def fcells (g : Nat → Nat) (k : Nat) : Array Value := #[.int .i64 (upn g k 0), .int .i64 (upn g k 1), .int .i64 (upn g k 2), .int .i64 (upn g k 3)]
theorem scells_next {w : World} {z : Nat} {f : Nat → ByteArray} {k : Nat} (h : w.heap[z]? = some (.cells (scells f k) 39 (0, 0))) (hk : k < 4) : (w.setCell ⟨z, k, none⟩ (.string (f k))).heap[z]? = some (.cells (scells f (k + 1)) 39 (0, 0)) := by
  rw [set_blk h]
  rcases four hk with rfl | rfl | rfl | rfl <;> simp [scells, upt]
theorem fcells_next {w : World} {z : Nat} {g : Nat → Nat} {k : Nat} (h : w.heap[z]? = some (.cells (fcells g k) 31 (0, 0))) (hk : k < 4) : (w.setCell ⟨z, k, none⟩ (.int .i64 (g k))).heap[z]? = some (.cells (fcells g (k + 1)) 31 (0, 0)) := by
  rw [set_blk h]
  rcases four hk with rfl | rfl | rfl | rfl <;> simp [fcells, upn]
theorem scells_at {w : World} {z : Nat} {f : Nat → ByteArray} {m : Nat} (h : w.heap[z]? = some (.cells (scells f m) 39 (0, 0))) {k : Nat} (hk : k < 4) : w.cell? ⟨z, k, none⟩ = some (.string (upt f m k)) := by
  rw [cell_of_row w z k _ 39 (0, 0) h]
  rcases four hk with rfl | rfl | rfl | rfl <;> rfl
theorem fcells_at {w : World} {z : Nat} {g : Nat → Nat} {m : Nat} (h : w.heap[z]? = some (.cells (fcells g m) 31 (0, 0))) {k : Nat} (hk : k < 4) : w.cell? ⟨z, k, none⟩ = some (.int .i64 (upn g m k)) := by
  rw [cell_of_row w z k _ 31 (0, 0) h]
  rcases four hk with rfl | rfl | rfl | rfl <;> rfl
theorem upt_four (f : Nat → ByteArray) {k : Nat} (hk : k < 4) : upt f 4 k = f k := by simp [upt, hk]
theorem upn_four (g : Nat → Nat) {k : Nat} (hk : k < 4) : upn g 4 k = g k := by simp [upn, hk]
theorem blk_ne {w : World} {a b Ta Tb : Nat} {ca cb : Array Value} {fa fb : Nat × Nat} (ha : w.heap[a]? = some (.cells ca Ta fa)) (hb : w.heap[b]? = some (.cells cb Tb fb)) (hT : Ta ≠ Tb) : a ≠ b := by
  rintro rfl
  rw [ha] at hb
  injection hb with hb
  injection hb with _ e _
  exact hT e
/-- the disk, all texts and safe numbers up to k -/
structure W2 (B p za zf : Nat) (S : St) (k m : Nat) (w wr : World) : Prop where
  dk : ∃ V, Dk B wr p S V
  all : wr.heap[za]? = some (.cells (scells S.f k) 39 (0, 0))
  saf : wr.heap[zf]? = some (.cells (fcells S.s m) 31 (0, 0))
  bel : Below B w wr
  ba : B ≤ za
  bf : B ≤ zf
section
variable {B p za zf : Nat} {S : St} {k m : Nat} {w wr : World}
theorem W2.drewN (h : W2 B p za zf S k m w wr) (n : Nat) : W2 B p za zf S k m w (wr.drewN n) := by
  obtain ⟨V, hd⟩ := h.dk
  exact ⟨⟨V, hd.drewN n⟩, h.all, h.saf, bdrew h.bel, h.ba, h.bf⟩
theorem W2.setA (h : W2 B p za zf S k m w wr) (hk : k < 4) : W2 B p za zf S (k + 1) m w (wr.setCell ⟨za, k, none⟩ (.string (S.f k))) := by
  obtain ⟨V, hd⟩ := h.dk
  exact ⟨⟨V, hd.aside h.all (by decide) (blk_ne h.all hd.blk (by decide)) _ _⟩, scells_next h.all hk, (Below.heap_setCell _ _ _ _ (blk_ne h.saf h.all (by decide))).trans h.saf, h.bel.setCell h.ba _, h.ba, h.bf⟩
theorem W2.setF (h : W2 B p za zf S k m w wr) (hk : m < 4) : W2 B p za zf S k (m + 1) w (wr.setCell ⟨zf, m, none⟩ (.int .i64 (S.s m))) := by
  obtain ⟨V, hd⟩ := h.dk
  exact ⟨⟨V, hd.aside h.saf (by decide) (blk_ne h.saf hd.blk (by decide)) _ _⟩, (Below.heap_setCell _ _ _ _ (blk_ne h.all h.saf (by decide))).trans h.all, fcells_next h.saf hk, h.bel.setCell h.bf _, h.ba, h.bf⟩
end
/-- behind the crash: the disk T, all of S, and what is left up to k -/
structure W3 (B p za zf zl : Nat) (S T : St) (k : Nat) (w wr : World) : Prop where
  dk : ∃ V, Dk B wr p T V
  all : wr.heap[za]? = some (.cells (scells S.f 4) 39 (0, 0))
  saf : wr.heap[zf]? = some (.cells (fcells S.s 4) 31 (0, 0))
  lef : wr.heap[zl]? = some (.cells (scells T.f k) 39 (0, 0))
  bel : Below B w wr
  bl : B ≤ zl
  ne : za < zl
section
variable {B p za zf zl : Nat} {S T : St} {k : Nat} {w wr w' : World}
theorem W2.crash (h : W2 B p za zf S 4 4 w wr) {V' : Nat → Value} (hc : Ch B p T V' wr w') : W3 B p za zf w'.heap.size S T 0 w (w'.alloc (.cells (scells T.f 0) 39)) := by
  obtain ⟨V, hd⟩ := h.dk
  have ha := hc.2.keep h.all (by decide) (blk_ne h.all hd.blk (by decide))
  have hf := hc.2.keep h.saf (by decide) (blk_ne h.saf hd.blk (by decide))
  exact ⟨⟨V', hc.1.alloc _⟩, (Below.heap_alloc _ _ _ (lt_of_blk ha)).trans ha, (Below.heap_alloc _ _ _ (lt_of_blk hf)).trans hf, heap_alloc_new w' _, (h.bel.trans hc.2.1).alloc hc.1.bw _, hc.1.bw, lt_of_blk ha⟩
theorem W3.drewN (h : W3 B p za zf zl S T k w wr) (n : Nat) : W3 B p za zf zl S T k w (wr.drewN n) := by
  obtain ⟨V, hd⟩ := h.dk
  exact ⟨⟨V, hd.drewN n⟩, h.all, h.saf, h.lef, bdrew h.bel, h.bl, h.ne⟩
theorem W3.setL (h : W3 B p za zf zl S T k w wr) (hk : k < 4) : W3 B p za zf zl S T (k + 1) w (wr.setCell ⟨zl, k, none⟩ (.string (T.f k))) := by
  obtain ⟨V, hd⟩ := h.dk
  have hne := h.ne
  exact ⟨⟨V, hd.aside h.lef (by decide) (blk_ne h.lef hd.blk (by decide)) _ _⟩, (Below.heap_setCell _ _ _ _ (by show za ≠ zl; omega)).trans h.all, (Below.heap_setCell _ _ _ _ (blk_ne h.saf h.lef (by decide))).trans h.saf, scells_next h.lef hk, h.bel.setCell h.bl _, h.bl, h.ne⟩
end
/-- behind the second crash -/
structure W4 (B p zl : Nat) (T U : St) (w wr : World) : Prop where
  dk : ∃ V, Dk B wr p U V
  lef : wr.heap[zl]? = some (.cells (scells T.f 4) 39 (0, 0))
  bel : Below B w wr
theorem W3.crash {B p za zf zl : Nat} {S T U : St} {w wr w' : World} (h : W3 B p za zf zl S T 4 w wr) {V' : Nat → Value} (hc : Ch B p U V' wr w') : W4 B p zl T U w w' := by
  obtain ⟨V, hd⟩ := h.dk
  exact ⟨⟨V', hc.1⟩, hc.2.keep h.lef (by decide) (blk_ne h.lef hd.blk (by decide)), h.bel.trans hc.2.1⟩
/-- a second crash changes nothing -/
theorem extract_all (b : ByteArray) : b.extract 0 b.size = b := by
  apply ByteArray.ext
  rw [ByteArray.data_extract]
  have : b.size = b.data.size := rfl
  rw [this, Array.extract_size]
theorem crs_again {S : St} (ok : Ok S) (K G : Nat → Int) (j : Nat) : (crs (crs S K) G).f j = (crs S K).f j := by
  have hl := lft_le (S.f j).size (S.s j) (K j) (ok.safe j)
  show ((crs S K).f j).extract 0 (lft ((crs S K).f j).size ((crs S K).s j) (G j)) = _
  have h1 : ((crs S K).f j).size = (crs S K).s j := size_extract0 _ _ hl.2
  have h2 : lft ((crs S K).f j).size ((crs S K).s j) (G j) = ((crs S K).f j).size := by rw [h1]; unfold lft; omega
  rw [h2]
  exact extract_all _
theorem crs_f {S : St} (ok : Ok S) (K : Nat → Int) (j : Nat) : S.s j ≤ ((crs S K).f j).size ∧ ((crs S K).f j).size ≤ (S.f j).size ∧ (crs S K).f j = (S.f j).extract 0 ((crs S K).f j).size ∧ (crs S K).s j = ((crs S K).f j).size := by
  have hl := lft_le (S.f j).size (S.s j) (K j) (ok.safe j)
  have h1 : ((crs S K).f j).size = lft (S.f j).size (S.s j) (K j) := size_extract0 _ _ hl.2
  refine ⟨by omega, by omega, by rw [h1]; rfl, h1.symm⟩
/-- calls below 2 leave the power and no limit -/
theorem step_free {S : St} (hg : S.gone = false) (hl : S.lim < 0) (c i : Int) (t : ByteArray) (n : Int) (K : Nat → Int) (hc : c < 2) : (step S c i t n K).gone = false ∧ (step S c i t n K).lim < 0 := by
  have key : ∀ (e : Int) (g : St → St), (∀ D, (g D).gone = D.gone ∧ (g D).lim = D.lim) → (chg S e g).1.gone = false ∧ (chg S e g).1.lim < 0 := by
    intro e g hgg
    unfold chg
    by_cases c : e ≠ 0
    · rw [if_pos c]; exact ⟨hg, hl⟩
    · rw [if_neg c, spd_free hl]
      simp only [ne_eq, not_true, if_false]
      exact ⟨(hgg S).1.trans hg, by rw [(hgg S).2]; exact hl⟩
  unfold step
  by_cases h0 : c = 0
  · rw [if_pos h0]; exact key _ _ fun D => ⟨rfl, rfl⟩
  rw [if_neg h0]
  by_cases h1 : c = 1
  · rw [if_pos h1]; exact key _ _ fun D => ⟨rfl, rfl⟩
  rw [if_neg h1, if_neg (by omega), if_neg (by omega)]
  exact ⟨rfl, by show (-1 : Int) < 0; decide⟩
end Go.Proofs.Ytfdebooimbbdbaa
