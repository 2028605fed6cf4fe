/- A call of both, program and reference. -/
import Derived.Test.YtfdebooimbbdbaaJ
import Derived.Test.YtfdebooimbbdbaaK
import Derived.Test.YtfdebooimbbdbaaL
import Derived.WalkKit
import Derived.ProofKit
import Derived.Handy
import Derived.WalkLawsBesides
import Derived.WalkSpells
import Derived.BigQuiet
import Derived.BigCall
import Derived.Deep.QuietTactic
import Derived.Deep.Light
import Derived.Deep.OwnRows
import Derived.Laws.AppendOwnNone
import Derived.Laws.Strings3
import Derived.Laws.RangeAny
import Derived.Deep.RegionWith
import Derived.Lib.BitFns
import Derived.Lib.Walk
import Derived.Lib.Strings
import Derived.Lib.OthersKept
import Derived.Deep.CutBlock
import Derived.Deep.DeepCutAuto
import Derived.Deep.LoopGhost
import Derived.Deep.RegionHeld3
import Derived.Lib.SmallJoins
import Derived.Maps.AppendAt
import Derived.Laws.IdiomStrings
import Derived.Lib.AppendZeros
namespace Go.Proofs.Ytfdebooimbbdbaa
open Go.RowKit
set_option linter.unusedVariables false
set_option linter.unusedSimpArgs false
def step (S : St) (c i : Int) (t : ByteArray) (n : Int) (K : Nat → Int) : St := if c = 0 then (app S i t).1 else if c = 1 then (syn S i).1 else if c = 2 then (ctf S i n).1 else if c = 3 then { S with lim := n } else crs S K
def acells (c i : Int) (t : ByteArray) (n : Int) (K : Nat → Int) : Array Value := #[.int .i64 c, .int .i64 i, .string t, .int .i64 n, .int .i64 (K 0), .int .i64 (K 1), .int .i64 (K 2), .int .i64 (K 3)]
/-- what both leave: the disk, the reference's box q as said, all below B -/
structure Both (B p q : Nat) (S : St) (w : World) : Prop where
  dk : ∃ V, Dk B w p S V
  bq : w.heap[q]? = some (.cells (rcells S) 29 (0, 0))
  bs : B ≤ q
  ok : Ok S
theorem Both.ne {B p q : Nat} {S : St} {w : World} (h : Both B p q S w) : q ≠ p := by
  rintro rfl
  obtain ⟨V, hd⟩ := h.dk
  have h1 := hd.blk
  rw [h.bq] at h1
  injection h1 with h1
  injection h1 with _ e2 _
  exact absurd e2 (by decide)
theorem Both.below {B p q : Nat} {S : St} {w w' : World} (h : Both B p q S w) (hb : Below w.heap.size w w') : Both B p q S w' := by
  obtain ⟨V, hd⟩ := h.dk
  exact ⟨⟨V, hd.below hb⟩, (hb.block q (lt_of_blk h.bq)).trans h.bq, h.bs, h.ok⟩
theorem rcells_one (X : St) : ∀ v ∈ (rcells X).toList, v.oneCell' = true := by
  intro v hv
  simp only [rcells, List.mem_cons, List.not_mem_nil, or_false] at hv
  rcases hv with rfl | rfl | rfl | rfl | rfl | rfl | rfl | rfl | rfl | rfl <;> rfl
/-- the store of a whole reference's disk -/
theorem run_put (w : World) (q : Nat) (S X : St) (h : w.heap[q]? = some (.cells (rcells S) 29 (0, 0))) : (storeCells ⟨q, 0, none⟩ (rcells X).toList).run Try.prog w = .ok () (w.setRow q (rcells X)) := by
  have := run_storeCells_at Try.prog q 0 29 (rcells X).toList 0 (rcells S) w h (by simp [rcells]) (rcells_one X)
  rw [this]
  congr 2
theorem put_blk {w : World} {q : Nat} {S : St} (X : St) (h : w.heap[q]? = some (.cells (rcells S) 29 (0, 0))) : (w.setRow q (rcells X)).heap[q]? = some (.cells (rcells X) 29 (0, 0)) := setRow_heap w q _ _ 29 (0, 0) h
theorem Dk.asideR {B p q : Nat} {S X Y : St} {V : Nat → Value} {w : World} (h : Dk B w p S V) (hq : w.heap[q]? = some (.cells (rcells X) 29 (0, 0))) (hne : q ≠ p) : Dk B (w.setRow q (rcells Y)) p S V :=
  h.same (setRow_other w q p _ (fun e => hne e.symm)) fun i g hi hg => setRow_other w q g _ (by rintro rfl; exact own_ne (h.own i hi) hq (by decide) hg)
theorem below_setRow {B : Nat} {a w : World} {q : Nat} {cs : Array Value} (h : Below B a w) (hq : B ≤ q) : Below B a (w.setRow q cs) :=
  ⟨h.os, h.tape, h.output, by have := h.size; simpa [World.setRow] using this, fun k hk => (setRow_other w q k cs (by omega)).trans (h.block k hk)⟩
/-- in the midst of a call of both: the disk D, the reference's box S, the next one's X; z: where the act lies, z + 1: the next one -/
structure Mid (B p q z : Nat) (D S X : St) (A : Array Value) (w wA : World) : Prop where
  dk : ∃ V, Dk B wA p D V
  bq : wA.heap[q]? = some (.cells (rcells S) 29 (0, 0))
  act : wA.heap[z]? = some (.cells A 33 (0, 0))
  nxt : wA.heap[z + 1]? = some (.cells (rcells X) 29 (0, 0))
  bel : Below B w wA
  ok : Ok D
  pz : p < z
  qz : q < z
  ne : q ≠ p
  bs : B ≤ q
  bz : B ≤ z
theorem Mid.start {B p q : Nat} {S : St} {w : World} (h : Both B p q S w) (A : Array Value) : Mid B p q w.heap.size S S S A w ((w.alloc (.cells A 33)).alloc (.cells (rcells S) 29)) := by
  obtain ⟨V, hd⟩ := h.dk
  have e : (w.alloc (.cells A 33)).heap.size = w.heap.size + 1 := by simp
  have h1 := heap_alloc_new (w.alloc (.cells A 33)) (.cells (rcells S) 29)
  rw [e] at h1
  have hq := lt_of_blk h.bq
  refine ⟨⟨V, (hd.alloc _).alloc _⟩, ?_, ?_, h1, ((Below.refl _ _).alloc hd.bw _).alloc (by have := hd.bw; rw [e]; omega) _, h.ok, hd.lt, hq, h.ne, h.bs, hd.bw⟩
  · rw [Below.heap_alloc _ _ _ (by rw [e]; omega), Below.heap_alloc _ _ _ hq]; exact h.bq
  · rw [Below.heap_alloc _ _ _ (by rw [e]; omega)]; exact heap_alloc_new w _
section
variable {B p q z : Nat} {D S X : St} {A : Array Value} {w wA w' : World}
theorem Mid.below (h : Mid B p q z D S X A w wA) (hb : Below wA.heap.size wA w') : Mid B p q z D S X A w w' := by
  obtain ⟨V, hd⟩ := h.dk
  exact ⟨⟨V, hd.below hb⟩, (hb.block _ (lt_of_blk h.bq)).trans h.bq, (hb.block _ (lt_of_blk h.act)).trans h.act, (hb.block _ (lt_of_blk h.nxt)).trans h.nxt, h.bel.trans (hb.mono hd.bw), h.ok, h.pz, h.qz, h.ne, h.bs, h.bz⟩
theorem Mid.belowN (h : Mid B p q z D S X A w wA) {n : Nat} (hb : Below (wA.drewN n).heap.size (wA.drewN n) w') : Mid B p q z D S X A w w' :=
  h.below ((bdrew (Below.refl _ _)).trans hb)
theorem Mid.setX (h : Mid B p q z D S X A w wA) (Y : St) : Mid B p q z D S Y A w (wA.setRow (z + 1) (rcells Y)) := by
  obtain ⟨V, hd⟩ := h.dk
  have hz := h.qz
  have hp := h.pz
  exact ⟨⟨V, hd.asideR h.nxt (by omega)⟩, (setRow_other _ _ _ _ (by omega)).trans h.bq, (setRow_other _ _ _ _ (by omega)).trans h.act, put_blk Y h.nxt, below_setRow h.bel (by have := h.bz; omega), h.ok, h.pz, h.qz, h.ne, h.bs, h.bz⟩
theorem Mid.prog (h : Mid B p q z D S X A w wA) {D' : St} {V : Nat → Value} (hc : Ch B p D' V wA w') (ok : Ok D') : Mid B p q z D' S X A w w' := by
  have hp := h.pz
  exact ⟨⟨V, hc.1⟩, hc.2.keep h.bq (by decide) h.ne, hc.2.keep h.act (by decide) (by omega), hc.2.keep h.nxt (by decide) (by omega), h.bel.trans hc.2.1, ok, h.pz, h.qz, h.ne, h.bs, h.bz⟩
theorem Mid.fin (h : Mid B p q z D S D A w wA) : Both B p q D (wA.setRow q (rcells D)) ∧ Below B w (wA.setRow q (rcells D)) := by
  obtain ⟨V, hd⟩ := h.dk
  exact ⟨⟨⟨V, hd.asideR h.bq h.ne⟩, put_blk D h.bq, h.bs, h.ok⟩, below_setRow h.bel h.bs⟩
theorem Mid.qc (h : Mid B p q z D S X A w wA) (j : Nat) : wA.cell? ⟨q, j, none⟩ = (rcells S)[j]? := cell_of_row wA _ j _ 29 (0, 0) h.bq
theorem Mid.xc (h : Mid B p q z D S X A w wA) (j : Nat) : wA.cell? ⟨z + 1, j, none⟩ = (rcells X)[j]? := cell_of_row wA _ j _ 29 (0, 0) h.nxt
theorem Mid.ac (h : Mid B p q z D S X A w wA) (j : Nat) : wA.cell? ⟨z, j, none⟩ = A[j]? := cell_of_row wA _ j _ 33 (0, 0) h.act
end
/-- the ten cells of a reference's disk at q -/
def Ten (w : World) (q : Nat) (S : St) : Prop := w.cell? ⟨q, 0, none⟩ = some (.string (S.f 0)) ∧ w.cell? ⟨q, 1, none⟩ = some (.int .i64 (S.s 0)) ∧ w.cell? ⟨q, 2, none⟩ = some (.string (S.f 1)) ∧ w.cell? ⟨q, 3, none⟩ = some (.int .i64 (S.s 1)) ∧ w.cell? ⟨q, 4, none⟩ = some (.string (S.f 2)) ∧ w.cell? ⟨q, 5, none⟩ = some (.int .i64 (S.s 2)) ∧ w.cell? ⟨q, 6, none⟩ = some (.string (S.f 3)) ∧ w.cell? ⟨q, 7, none⟩ = some (.int .i64 (S.s 3)) ∧ w.cell? ⟨q, 8, none⟩ = some (.int .i64 S.lim) ∧ w.cell? ⟨q, 9, none⟩ = some (.bool S.gone)
theorem ten_of {w : World} {q : Nat} {S : St} (h : w.heap[q]? = some (.cells (rcells S) 29 (0, 0))) : Ten w q S := by
  have e0 : ∀ j, w.cell? ⟨q, j, none⟩ = (rcells S)[j]? := fun j => cell_of_row w _ j _ 29 (0, 0) h
  exact ⟨e0 0, e0 1, e0 2, e0 3, e0 4, e0 5, e0 6, e0 7, e0 8, e0 9⟩
theorem ten_arr (S T : St) : ((((((((((rcells S).setIfInBounds 0 (.string (T.f 0))).setIfInBounds 1 (.int .i64 (T.s 0))).setIfInBounds 2 (.string (T.f 1))).setIfInBounds 3 (.int .i64 (T.s 1))).setIfInBounds 4 (.string (T.f 2))).setIfInBounds 5 (.int .i64 (T.s 2))).setIfInBounds 6 (.string (T.f 3))).setIfInBounds 7 (.int .i64 (T.s 3))).setIfInBounds 8 (.int .i64 T.lim)).setIfInBounds 9 (.bool T.gone) = rcells T := by simp [rcells]
theorem ten_set {w : World} {q : Nat} {S : St} (T : St) (h : w.heap[q]? = some (.cells (rcells S) 29 (0, 0))) : (((((((((w.setCell ⟨q, 0, none⟩ (.string (T.f 0))).setCell ⟨q, 1, none⟩ (.int .i64 (T.s 0))).setCell ⟨q, 2, none⟩ (.string (T.f 1))).setCell ⟨q, 3, none⟩ (.int .i64 (T.s 1))).setCell ⟨q, 4, none⟩ (.string (T.f 2))).setCell ⟨q, 5, none⟩ (.int .i64 (T.s 2))).setCell ⟨q, 6, none⟩ (.string (T.f 3))).setCell ⟨q, 7, none⟩ (.int .i64 (T.s 3))).setCell ⟨q, 8, none⟩ (.int .i64 T.lim)).setCell ⟨q, 9, none⟩ (.bool T.gone) = w.setRow q (rcells T) := by
  have hs : ∀ (cs : Array Value), w.heap[q]? = some (.cells (rcells S) 29 (0, 0)) → (w.setRow q cs).heap[q]? = some (.cells cs 29 (0, 0)) := fun cs h => setRow_heap w q _ _ 29 (0, 0) h
  rw [setCell_eq_setRow w q 0 _ 29 (0, 0) _ h]
  rw [setCell_eq_setRow _ q 1 _ 29 (0, 0) _ (hs _ h), setRow_setRow]
  rw [setCell_eq_setRow _ q 2 _ 29 (0, 0) _ (hs _ h), setRow_setRow]
  rw [setCell_eq_setRow _ q 3 _ 29 (0, 0) _ (hs _ h), setRow_setRow]
  rw [setCell_eq_setRow _ q 4 _ 29 (0, 0) _ (hs _ h), setRow_setRow]
  rw [setCell_eq_setRow _ q 5 _ 29 (0, 0) _ (hs _ h), setRow_setRow]
  rw [setCell_eq_setRow _ q 6 _ 29 (0, 0) _ (hs _ h), setRow_setRow]
  rw [setCell_eq_setRow _ q 7 _ 29 (0, 0) _ (hs _ h), setRow_setRow]
  rw [setCell_eq_setRow _ q 8 _ 29 (0, 0) _ (hs _ h), setRow_setRow]
  rw [setCell_eq_setRow _ q 9 _ 29 (0, 0) _ (hs _ h), setRow_setRow]
  rw [ten_arr]
end Go.Proofs.Ytfdebooimbbdbaa
