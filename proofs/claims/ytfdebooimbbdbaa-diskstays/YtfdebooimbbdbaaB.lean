/- A disk in memory: one block of eleven cells, and a row of bytes of its own for each file; what stores into it do. -/
import Derived.Test.YtfdebooimbbdbaaA
import Derived.WalkKit
import Derived.ProofKit
import Derived.Handy
import Derived.WalkLawsBesides
import Derived.WalkSpells
import Derived.BigQuiet
import Derived.BigCall
import Derived.Deep.QuietTactic
import Derived.Deep.Light
import Derived.Deep.OwnRows
import Derived.Laws.AppendOwnNone
import Derived.Laws.Strings3
import Derived.Laws.RangeAny
import Derived.Deep.RegionWith
import Derived.Lib.BitFns
import Derived.Lib.Walk
import Derived.Lib.Strings
import Derived.Lib.OthersKept
import Derived.Deep.CutBlock
import Derived.Deep.DeepCutAuto
import Derived.Deep.LoopGhost
import Derived.Deep.RegionHeld3
import Derived.Lib.SmallJoins
import Derived.Maps.AppendAt
import Derived.Laws.IdiomStrings
namespace Go.Proofs.Ytfdebooimbbdbaa
open Go.RowKit
set_option linter.unusedVariables false
set_option linter.unusedSimpArgs false
/-- the eleven cells -/
def dcells (S : St) (V : Nat → Value) : Array Value := #[.bool true, .bool (!S.gone), .int .i64 S.lim, V 0, .int .i64 (S.s 0), V 1, .int .i64 (S.s 1), V 2, .int .i64 (S.s 2), V 3, .int .i64 (S.s 3)]
structure Dk (B : Nat) (w : World) (p : Nat) (S : St) (V : Nat → Value) : Prop where
  base : B ≤ p
  blk : w.heap[p]? = some (.cells (dcells S V) 59 (0, 0))
  own : ∀ i, i < 4 → w.ownsRow B 5 1 (V i) (S.f i).size (Lib.strCells (S.f i))
  apart : ∀ i j, i < 4 → j < 4 → i ≠ j → (V i).ownBlock = none ∨ (V i).ownBlock ≠ (V j).ownBlock
/-- what stands: all below B; all blocks but p and rows of bytes -/
def Fr (B p : Nat) (w w' : World) : Prop := Below B w w' ∧ Lib.OthersKept 5 (some p) w w'
theorem Fr.refl (B p : Nat) (w : World) : Fr B p w w := ⟨Below.refl _ _, Lib.OthersKept.refl _ _ _⟩
theorem Fr.trans {B p : Nat} {a b c : World} (h : Fr B p a b) (k : Fr B p b c) : Fr B p a c := ⟨h.1.trans k.1, h.2.trans k.2⟩
theorem Fr.keep {B p q T : Nat} {w w' : World} {cs : Array Value} {fz : Nat × Nat} (h : Fr B p w w') (hq : w.heap[q]? = some (.cells cs T fz)) (hT : T ≠ 5) (hp : q ≠ p) : w'.heap[q]? = some (.cells cs T fz) :=
  h.2 q _ hq (by intro e; exact hp (Option.some.inj e)) (by intro c f e; injection e with _ e2 _; exact hT e2)
theorem Fr.drewN {B p : Nat} {a w : World} (h : Fr B p a w) (n : Nat) : Fr B p a (w.drewN n) := ⟨⟨h.1.os, h.1.tape, h.1.output, h.1.size, h.1.block⟩, h.2⟩
section
variable {B p : Nat} {w w' : World} {S : St} {V : Nat → Value}
theorem Dk.lt (h : Dk B w p S V) : p < w.heap.size := (Array.getElem?_eq_some_iff.1 h.blk).1
theorem Dk.bw (h : Dk B w p S V) : B ≤ w.heap.size := Nat.le_of_lt (Nat.lt_of_le_of_lt h.base h.lt)
theorem Dk.cell (h : Dk B w p S V) (j : Nat) : w.cell? ⟨p, j, none⟩ = (dcells S V)[j]? := cell_of_row w p j _ 59 (0, 0) h.blk
theorem Dk.froz (h : Dk B w p S V) (j : Nat) : w.frozen? ⟨p, j, none⟩ = false := by
  have := h.blk
  simp [World.frozen?, this]
theorem Dk.c0 (h : Dk B w p S V) : w.cell? ⟨p, 0, none⟩ = some (.bool true) := h.cell 0
theorem Dk.c1 (h : Dk B w p S V) : w.cell? ⟨p, 1, none⟩ = some (.bool (!S.gone)) := h.cell 1
theorem Dk.c2 (h : Dk B w p S V) : w.cell? ⟨p, 2, none⟩ = some (.int .i64 S.lim) := h.cell 2
theorem four {i : Nat} (h : i < 4) : i = 0 ∨ i = 1 ∨ i = 2 ∨ i = 3 := by omega
theorem Dk.cV (h : Dk B w p S V) {i : Nat} (hi : i < 4) : w.cell? ⟨p, 3 + i * 2, none⟩ = some (V i) := by
  rw [h.cell]
  rcases four hi with rfl | rfl | rfl | rfl <;> rfl
theorem Dk.cS (h : Dk B w p S V) {i : Nat} (hi : i < 4) : w.cell? ⟨p, 3 + i * 2 + 1, none⟩ = some (.int .i64 (S.s i)) := by
  rw [h.cell]
  rcases four hi with rfl | rfl | rfl | rfl <;> rfl
/-- the block of a row of bytes is another one -/
theorem own_ne {T : Nat} {cs : Array Value} {fz : Nat × Nat} {v : Value} {n : Nat} {xs : List Value} (h : w.ownsRow B 5 1 v n xs) (hp : w.heap[p]? = some (.cells cs T fz)) (hT : T ≠ 5) : v.ownBlock ≠ some p := by
  intro e
  rcases h.2 with ⟨rfl, _⟩ | ⟨g, cap, cur, rfl, _, hg, _⟩
  · cases e
  · obtain rfl : g = p := Option.some.inj e
    rw [hp] at hg
    injection hg with hg
    injection hg with _ e2 _
    exact hT e2
/-- what leaves the own blocks leaves the row -/
theorem own_same {v : Value} {n : Nat} {xs : List Value} (h : w.ownsRow B 5 1 v n xs) (hk : ∀ g, v.ownBlock = some g → w'.heap[g]? = w.heap[g]?) : w'.ownsRow B 5 1 v n xs := by
  refine ⟨h.1, ?_⟩
  rcases h.2 with hn | ⟨g, cap, cur, rfl, hb, hg, rest⟩
  · exact .inl hn
  · exact .inr ⟨g, cap, cur, rfl, hb, (hk g rfl).trans hg, rest⟩
theorem Dk.same (h : Dk B w p S V) (hp : w'.heap[p]? = w.heap[p]?) (hk : ∀ i g, i < 4 → (V i).ownBlock = some g → w'.heap[g]? = w.heap[g]?) : Dk B w' p S V :=
  ⟨h.base, hp.trans h.blk, fun i hi => own_same (h.own i hi) fun g hg => hk i g hi hg, h.apart⟩
theorem Dk.drewN (h : Dk B w p S V) (n : Nat) : Dk B (w.drewN n) p S V := h.same rfl fun _ _ _ _ => rfl
theorem Dk.alloc (h : Dk B w p S V) (o : Obj) : Dk B (w.alloc o) p S V :=
  h.same (Below.heap_alloc w o p h.lt) fun i g hi hg => Below.heap_alloc w o g ((h.own i hi).lt g hg).2
/-- what leaves all that lay there -/
theorem Dk.below (h : Dk B w p S V) (hb : Below w.heap.size w w') : Dk B w' p S V :=
  h.same (hb.block p h.lt) fun i g hi hg => hb.block g ((h.own i hi).lt g hg).2
theorem Fr.below (h : Below w.heap.size w w') (hB : B ≤ w.heap.size) : Fr B p w w' :=
  ⟨h.mono hB, fun k o hk _ _ => (h.block k (Array.getElem?_eq_some_iff.1 hk).1).trans hk⟩
/-- a store into another block -/
theorem Dk.aside (h : Dk B w p S V) {q T : Nat} {cs : Array Value} {fz : Nat × Nat} (hq : w.heap[q]? = some (.cells cs T fz)) (hT : T ≠ 5) (hne : q ≠ p) (k : Nat) (u : Value) : Dk B (w.setCell ⟨q, k, none⟩ u) p S V :=
  h.same (Below.heap_setCell w _ u p (by exact fun e => hne e.symm)) fun i g hi hg => Below.heap_setCell w _ u g (by intro e; exact own_ne (h.own i hi) hq hT (by rw [hg, e]))
theorem set_blk {T k : Nat} {cs : Array Value} {fz : Nat × Nat} (hp : w.heap[p]? = some (.cells cs T fz)) (u : Value) : (w.setCell ⟨p, k, none⟩ u).heap[p]? = some (.cells (cs.setIfInBounds k u) T fz) := by
  rw [setCell_eq_setRow w p k cs T fz u hp]
  exact setRow_heap w p cs _ T fz hp
theorem Fr.set (hB : B ≤ p) (k : Nat) (u : Value) : Fr B p w (w.setCell ⟨p, k, none⟩ u) :=
  ⟨(Below.refl _ _).setCell hB u, Lib.OthersKept.setCell (b := p) (Lib.OthersKept.refl 5 (some p) w) ⟨p, k, none⟩ rfl u⟩
/-- a store into the disk's block -/
theorem Dk.set (h : Dk B w p S V) {k : Nat} {u : Value} {S' : St} {V' : Nat → Value} (hc : (dcells S V).setIfInBounds k u = dcells S' V')
    (ho : ∀ i, i < 4 → w.ownsRow B 5 1 (V' i) (S'.f i).size (Lib.strCells (S'.f i))) (ha : ∀ i j, i < 4 → j < 4 → i ≠ j → (V' i).ownBlock = none ∨ (V' i).ownBlock ≠ (V' j).ownBlock) : Dk B (w.setCell ⟨p, k, none⟩ u) p S' V' := by
  refine ⟨h.base, by rw [set_blk h.blk u, hc], fun i hi => own_same (ho i hi) fun g hg => ?_, ha⟩
  exact Below.heap_setCell w _ u g (by intro e; exact own_ne (ho i hi) h.blk (by decide) (by rw [hg, e]))
theorem Dk.setP (h : Dk B w p S V) (b : Bool) : Dk B (w.setCell ⟨p, 1, none⟩ (.bool (!b))) p { S with gone := b } V := h.set rfl h.own h.apart
theorem Dk.setL (h : Dk B w p S V) (n : Int) : Dk B (w.setCell ⟨p, 2, none⟩ (.int .i64 n)) p { S with lim := n } V := h.set rfl h.own h.apart
theorem Dk.setS (h : Dk B w p S V) {i : Nat} (hi : i < 4) (n : Nat) : Dk B (w.setCell ⟨p, 3 + i * 2 + 1, none⟩ (.int .i64 n)) p { S with s := put S.s i n } V := by
  refine h.set ?_ h.own h.apart
  rcases four hi with rfl | rfl | rfl | rfl <;> simp [dcells, put]
theorem Dk.setV (h : Dk B w p S V) {i : Nat} (hi : i < 4) (v : Value) (b : ByteArray) (ho : w.ownsRow B 5 1 v b.size (Lib.strCells b)) (ha : ∀ j, j < 4 → j ≠ i → v.ownBlock = none ∨ v.ownBlock ≠ (V j).ownBlock) :
    Dk B (w.setCell ⟨p, 3 + i * 2, none⟩ v) p { S with f := put S.f i b } (put V i v) := by
  refine h.set ?_ (fun j hj => ?_) (fun j k hj hk hne => ?_)
  · rcases four hi with rfl | rfl | rfl | rfl <;> simp [dcells, put]
  · by_cases c : j = i
    · subst c; simp only [put_eq]; exact ho
    · simp only [put_ne _ _ _ _ c]; exact h.own j hj
  · by_cases c : j = i
    · subst c; rw [put_eq, put_ne _ _ _ _ (fun e => hne e.symm)]; exact ha k hk (fun e => hne e.symm)
    · rw [put_ne _ _ _ _ c]
      by_cases d : k = i
      · subst d
        rw [put_eq]
        rcases ha j hj c with e | e
        · rw [e]
          rcases hv : (V j).ownBlock with _ | g
          · exact .inl rfl
          · exact .inr (by simp)
        · exact .inr (fun q => e q.symm)
      · rw [put_ne _ _ _ _ d]; exact h.apart j k hj hk hne
end
/-- the first n bytes of an own row -/
theorem strCells_take (b : ByteArray) (n : Nat) : Lib.strCells (b.extract 0 n) = (Lib.strCells b).take n := by
  simp [Lib.strCells, ByteArray.data_extract, Array.toList_extract, List.extract_eq_take_drop, List.map_take]
theorem own_sl {B : Nat} {w : World} {v : Value} {b : ByteArray} (h : w.ownsRow B 5 1 v b.size (Lib.strCells b)) :
    ∃ a cap, v = .slice a b.size cap ∧ b.size ≤ cap ∧ cap ≤ maxLen ∧ (∀ n, (Value.slice a n cap).ownBlock = v.ownBlock) ∧ ∀ n, n ≤ b.size → w.ownsRow B 5 1 (.slice a n cap) (b.extract 0 n).size (Lib.strCells (b.extract 0 n)) := by
  rcases h.2 with ⟨rfl, h0⟩ | ⟨g, cap, cur, rfl, hb, hg, h1, h2, h3, h4⟩
  · refine ⟨none, 0, by rw [h0], by omega, by simp [maxLen], fun _ => rfl, fun n hn => ?_⟩
    have : n = 0 := by omega
    subst this
    rw [size_extract0 _ _ hn, strCells_take]
    exact ⟨by simp, .inl ⟨rfl, rfl⟩⟩
  · refine ⟨_, cap, rfl, h1, h2, fun _ => rfl, fun n hn => ?_⟩
    rw [size_extract0 _ _ hn, strCells_take]
    refine ⟨by simp [Lib.strCells_length]; omega, .inr ⟨g, cap, cur, rfl, hb, hg, by omega, h2, h3, ?_⟩⟩
    rw [← h4, List.take_take]
    congr 1
    omega
theorem strCells_app (a b : ByteArray) : Lib.strCells (a ++ b) = Lib.strCells a ++ Lib.strCells b := by simp [Lib.strCells]
end Go.Proofs.Ytfdebooimbbdbaa
