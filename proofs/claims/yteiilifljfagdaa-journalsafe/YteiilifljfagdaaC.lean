/- A disk in memory: one block of eleven cells, and a row of bytes of its own for each file; what stores into it do. -/
import Derived.Test.YteiilifljfagdaaB
import Derived.WalkKit
import Derived.ProofKit
import Derived.Handy
import Derived.WalkLawsBesides
import Derived.WalkSpells
import Derived.BigQuiet
import Derived.BigCall
import Derived.Deep.QuietTactic
import Derived.Deep.Light
import Derived.Deep.OwnRows
import Derived.Laws.AppendOwnNone
import Derived.Laws.Strings3
import Derived.Laws.RangeAny
import Derived.Deep.RegionWith
import Derived.Lib.BitFns
import Derived.Lib.Walk
import Derived.Lib.Strings
import Derived.Lib.OthersKept
import Derived.Deep.CutBlock
import Derived.Deep.DeepCutAuto
import Derived.Deep.LoopGhost
import Derived.Deep.RegionHeld3
import Derived.Lib.SmallJoins
import Derived.Maps.AppendAt
import Derived.Laws.IdiomStrings
import Derived.Lib.AppendZeros
import Derived.Deep.WholeRow
import Derived.Laws.BitsAllLaws
import Derived.Lib.ConvBytes
namespace Go.Proofs.Yteiilifljfagdaa
open Go.RowKit
set_option linter.unusedVariables false
set_option linter.unusedSimpArgs false
/-- the eleven cells -/
def dcells (S : St) (V : Nat → Value) : Array Value := #[.bool true, .bool (!S.gone), .int .i64 S.lim, V 0, .int .i64 (S.s 0), V 1, .int .i64 (S.s 1), V 2, .int .i64 (S.s 2), V 3, .int .i64 (S.s 3)]
structure Dk (B : Nat) (w : World) (p : Nat) (S : St) (V : Nat → Value) : Prop where
  base : B ≤ p
  blk : w.heap[p]? = some (.cells (dcells S V) 79 (0, 0))
  own : ∀ i, i < 4 → w.ownsRow B 5 1 (V i) (S.f i).size (Lib.strCells (S.f i))
  apart : ∀ i j, i < 4 → j < 4 → i ≠ j → (V i).ownBlock = none ∨ (V i).ownBlock ≠ (V j).ownBlock
/-- what stands: all below B; all blocks but p and rows of bytes -/
def Fr (B p : Nat) (w w' : World) : Prop := Below B w w' ∧ Lib.OthersKept 5 (some p) w w'
theorem Fr.refl (B p : Nat) (w : World) : Fr B p w w := ⟨Below.refl _ _, Lib.OthersKept.refl _ _ _⟩
theorem Fr.trans {B p : Nat} {a b c : World} (h : Fr B p a b) (k : Fr B p b c) : Fr B p a c := ⟨h.1.trans k.1, h.2.trans k.2⟩
theorem Fr.keep {B p q T : Nat} {w w' : World} {cs : Array Value} {fz : Nat × Nat} (h : Fr B p w w') (hq : w.heap[q]? = some (.cells cs T fz)) (hT : T ≠ 5) (hp : q ≠ p) : w'.heap[q]? = some (.cells cs T fz) :=
  h.2 q _ hq (by intro e; exact hp (Option.some.inj e)) (by intro c f e; injection e with _ e2 _; exact hT e2)
theorem Fr.drewN {B p : Nat} {a w : World} (h : Fr B p a w) (n : Nat) : Fr B p a (w.drewN n) := ⟨⟨h.1.os, h.1.tape, h.1.output, h.1.size, h.1.block⟩, h.2⟩
section
variable {B p : Nat} {w w' : World} {S : St} {V : Nat → Value}
theorem Dk.lt (h : Dk B w p S V) : p < w.heap.size := (Array.getElem?_eq_some_iff.1 h.blk).1
theorem Dk.bw (h : Dk B w p S V) : B ≤ w.heap.size := Nat.le_of_lt (Nat.lt_of_le_of_lt h.base h.lt)
theorem Dk.cell (h : Dk B w p S V) (j : Nat) : w.cell? ⟨p, j, none⟩ = (dcells S V)[j]? := cell_of_row w p j _ 79 (0, 0) h.blk
theorem Dk.froz (h : Dk B w p S V) (j : Nat) : w.frozen? ⟨p, j, none⟩ = false := by
  have := h.blk
  simp [World.frozen?, this]
theorem Dk.c0 (h : Dk B w p S V) : w.cell? ⟨p, 0, none⟩ = some (.bool true) := h.cell 0
theorem Dk.c1 (h : Dk B w p S V) : w.cell? ⟨p, 1, none⟩ = some (.bool (!S.gone)) := h.cell 1
theorem Dk.c2 (h : Dk B w p S V) : w.cell? ⟨p, 2, none⟩ = some (.int .i64 S.lim) := h.cell 2
theorem lt4 {i : Nat} (h : i < 4) : i = 0 ∨ i = 1 ∨ i = 2 ∨ i = 3 := by omega
theorem Dk.cV (h : Dk B w p S V) {i : Nat} (hi : i < 4) : w.cell? ⟨p, 3 + i * 2, none⟩ = some (V i) := by
  rw [h.cell]
  rcases lt4 hi with rfl | rfl | rfl | rfl <;> rfl
theorem Dk.cS (h : Dk B w p S V) {i : Nat} (hi : i < 4) : w.cell? ⟨p, 3 + i * 2 + 1, none⟩ = some (.int .i64 (S.s i)) := by
  rw [h.cell]
  rcases lt4 hi with rfl | rfl | rfl | rfl <;> rfl
/-- the block of a row of bytes is another one -/
theorem own_ne {T : Nat} {cs : Array Value} {fz : Nat × Nat} {v : Value} {n : Nat} {xs : List Value} (h : w.ownsRow B 5 1 v n xs) (hp : w.heap[p]? = some (.cells cs T fz)) (hT : T ≠ 5) : v.ownBlock ≠ some p := by
  intro e
  rcases h.2 with ⟨rfl, _⟩ | ⟨g, cap, cur, rfl, _, hg, _⟩
  · cases e
  · obtain rfl : g = p := Option.some.inj e
    rw [hp] at hg
    injection hg with hg
    injection hg with _ e2 _
    exact hT e2
/-- what leaves the own blocks leaves the row -/
theorem own_same {v : Value} {n : Nat} {xs : List Value} (h : w.ownsRow B 5 1 v n xs) (hk : ∀ g, v.ownBlock = some g → w'.heap[g]? = w.heap[g]?) : w'.ownsRow B 5 1 v n xs := by
  refine ⟨h.1, ?_⟩
  rcases h.2 with hn | ⟨g, cap, cur, rfl, hb, hg, rest⟩
  · exact .inl hn
  · exact .inr ⟨g, cap, cur, rfl, hb, (hk g rfl).trans hg, rest⟩
theorem Dk.same (h : Dk B w p S V) (hp : w'.heap[p]? = w.heap[p]?) (hk : ∀ i g, i < 4 → (V i).ownBlock = some g → w'.heap[g]? = w.heap[g]?) : Dk B w' p S V :=
  ⟨h.base, hp.trans h.blk, fun i hi => own_same (h.own i hi) fun g hg => hk i g hi hg, h.apart⟩
theorem Dk.drewN (h : Dk B w p S V) (n : Nat) : Dk B (w.drewN n) p S V := h.same rfl fun _ _ _ _ => rfl
theorem Dk.alloc (h : Dk B w p S V) (o : Obj) : Dk B (w.alloc o) p S V :=
  h.same (Below.heap_alloc w o p h.lt) fun i g hi hg => Below.heap_alloc w o g ((h.own i hi).lt g hg).2
/-- what leaves all that lay there -/
theorem Dk.below (h : Dk B w p S V) (hb : Below w.heap.size w w') : Dk B w' p S V :=
  h.same (hb.block p h.lt) fun i g hi hg => hb.block g ((h.own i hi).lt g hg).2
theorem Fr.below (h : Below w.heap.size w w') (hB : B ≤ w.heap.size) : Fr B p w w' :=
  ⟨h.mono hB, fun k o hk _ _ => (h.block k (Array.getElem?_eq_some_iff.1 hk).1).trans hk⟩
/-- a store into another block -/
theorem Dk.aside (h : Dk B w p S V) {q T : Nat} {cs : Array Value} {fz : Nat × Nat} (hq : w.heap[q]? = some (.cells cs T fz)) (hT : T ≠ 5) (hne : q ≠ p) (k : Nat) (u : Value) : Dk B (w.setCell ⟨q, k, none⟩ u) p S V :=
  h.same (Below.heap_setCell w _ u p (by exact fun e => hne e.symm)) fun i g hi hg => Below.heap_setCell w _ u g (by intro e; exact own_ne (h.own i hi) hq hT (by rw [hg, e]))
theorem set_blk {T k : Nat} {cs : Array Value} {fz : Nat × Nat} (hp : w.heap[p]? = some (.cells cs T fz)) (u : Value) : (w.setCell ⟨p, k, none⟩ u).heap[p]? = some (.cells (cs.setIfInBounds k u) T fz) := by
  rw [setCell_eq_setRow w p k cs T fz u hp]
  exact setRow_heap w p cs _ T fz hp
theorem Fr.set (hB : B ≤ p) (k : Nat) (u : Value) : Fr B p w (w.setCell ⟨p, k, none⟩ u) :=
  ⟨(Below.refl _ _).setCell hB u, Lib.OthersKept.setCell (b := p) (Lib.OthersKept.refl 5 (some p) w) ⟨p, k, none⟩ rfl u⟩
/-- a store into the disk's block -/
theorem Dk.set (h : Dk B w p S V) {k : Nat} {u : Value} {S' : St} {V' : Nat → Value} (hc : (dcells S V).setIfInBounds k u = dcells S' V')
    (ho : ∀ i, i < 4 → w.ownsRow B 5 1 (V' i) (S'.f i).size (Lib.strCells (S'.f i))) (ha : ∀ i j, i < 4 → j < 4 → i ≠ j → (V' i).ownBlock = none ∨ (V' i).ownBlock ≠ (V' j).ownBlock) : Dk B (w.setCell ⟨p, k, none⟩ u) p S' V' := by
  refine ⟨h.base, by rw [set_blk h.blk u, hc], fun i hi => own_same (ho i hi) fun g hg => ?_, ha⟩
  exact Below.heap_setCell w _ u g (by intro e; exact own_ne (ho i hi) h.blk (by decide) (by rw [hg, e]))
theorem Dk.setP (h : Dk B w p S V) (b : Bool) : Dk B (w.setCell ⟨p, 1, none⟩ (.bool (!b))) p { S with gone := b } V := h.set rfl h.own h.apart
theorem Dk.setL (h : Dk B w p S V) (n : Int) : Dk B (w.setCell ⟨p, 2, none⟩ (.int .i64 n)) p { S with lim := n } V := h.set rfl h.own h.apart
theorem Dk.setS (h : Dk B w p S V) {i : Nat} (hi : i < 4) (n : Nat) : Dk B (w.setCell ⟨p, 3 + i * 2 + 1, none⟩ (.int .i64 n)) p { S with s := put S.s i n } V := by
  refine h.set ?_ h.own h.apart
  rcases lt4 hi with rfl | rfl | rfl | rfl <;> simp [dcells, put]
theorem Dk.setV (h : Dk B w p S V) {i : Nat} (hi : i < 4) (v : Value) (b : ByteArray) (ho : w.ownsRow B 5 1 v b.size (Lib.strCells b)) (ha : ∀ j, j < 4 → j ≠ i → v.ownBlock = none ∨ v.ownBlock ≠ (V j).ownBlock) :
    Dk B (w.setCell ⟨p, 3 + i * 2, none⟩ v) p { S with f := put S.f i b } (put V i v) := by
  refine h.set ?_ (fun j hj => ?_) (fun j k hj hk hne => ?_)
  · rcases lt4 hi with rfl | rfl | rfl | rfl <;> simp [dcells, put]
  · by_cases c : j = i
    · subst c; simp only [put_eq]; exact ho
    · simp only [put_ne _ _ _ _ c]; exact h.own j hj
  · by_cases c : j = i
    · subst c; rw [put_eq, put_ne _ _ _ _ (fun e => hne e.symm)]; exact ha k hk (fun e => hne e.symm)
    · rw [put_ne _ _ _ _ c]
      by_cases d : k = i
      · subst d
        rw [put_eq]
        rcases ha j hj c with e | e
        · rw [e]
          rcases hv : (V j).ownBlock with _ | g
          · exact .inl rfl
          · exact .inr (by simp)
        · exact .inr (fun q => e q.symm)
      · rw [put_ne _ _ _ _ d]; exact h.apart j k hj hk hne
end
/-- the first n bytes of an own row -/
theorem strCells_take (b : ByteArray) (n : Nat) : Lib.strCells (b.extract 0 n) = (Lib.strCells b).take n := by
  simp [Lib.strCells, ByteArray.data_extract, Array.toList_extract, List.extract_eq_take_drop, List.map_take]
theorem own_sl {B : Nat} {w : World} {v : Value} {b : ByteArray} (h : w.ownsRow B 5 1 v b.size (Lib.strCells b)) :
    ∃ a cap, v = .slice a b.size cap ∧ b.size ≤ cap ∧ cap ≤ maxLen ∧ (∀ n, (Value.slice a n cap).ownBlock = v.ownBlock) ∧ ∀ n, n ≤ b.size → w.ownsRow B 5 1 (.slice a n cap) (b.extract 0 n).size (Lib.strCells (b.extract 0 n)) := by
  rcases h.2 with ⟨rfl, h0⟩ | ⟨g, cap, cur, rfl, hb, hg, h1, h2, h3, h4⟩
  · refine ⟨none, 0, by rw [h0], by omega, by simp [maxLen], fun _ => rfl, fun n hn => ?_⟩
    have : n = 0 := by omega
    subst this
    rw [size_extract0 _ _ hn, strCells_take]
    exact ⟨by simp, .inl ⟨rfl, rfl⟩⟩
  · refine ⟨_, cap, rfl, h1, h2, fun _ => rfl, fun n hn => ?_⟩
    rw [size_extract0 _ _ hn, strCells_take]
    refine ⟨by simp [Lib.strCells_length]; omega, .inr ⟨g, cap, cur, rfl, hb, hg, by omega, h2, h3, ?_⟩⟩
    rw [← h4, List.take_take]
    congr 1
    omega
theorem strCells_app (a b : ByteArray) : Lib.strCells (a ++ b) = Lib.strCells a ++ Lib.strCells b := by simp [Lib.strCells]
/- The small calls of a disk: lacking, find, spend, cut, late, sync. -/
theorem xlack (B p : Nat) (S : St) (V : Nat → Value) (w : World) (h : Dk B w p S V) : Calls Try.prog 48 #[.pointer (some ⟨p, 0, none⟩)] w fun e w' => e = .returned (.bool false) ∧ w = w' := by
  have hc := h.c0
  clear h
  go_enter Try.func48, Try.ntmps48
  go_wp2
  go_ret
  exact ⟨rfl, rfl⟩
theorem xlackn (w : World) : Calls Try.prog 48 #[.pointer none] w fun e w' => e = .returned (.bool true) ∧ w = w' := by
  go_enter Try.func48, Try.ntmps48
  go_wp2
  go_ret
  exact ⟨rfl, rfl⟩
theorem xlack0 (p : Nat) (w : World) (hc : w.cell? ⟨p, 0, none⟩ = some (.bool false)) : Calls Try.prog 48 #[.pointer (some ⟨p, 0, none⟩)] w fun e w' => e = .returned (.bool true) ∧ w = w' := by
  go_enter Try.func48, Try.ntmps48
  go_wp2
  go_ret
  exact ⟨rfl, rfl⟩
set_option maxHeartbeats 400000 in
theorem xfind (B p : Nat) (S : St) (V : Nat → Value) (w : World) (h : Dk B w p S V) (i : Nat) (hi : i < 4) (hg : S.gone = false) : Calls Try.prog 44 #[.pointer (some ⟨p, 0, none⟩), .int .i64 i] w fun e w' => e = .returned (.tuple #[.pointer (some ⟨p, 3 + i * 2, none⟩), .int .i64 0]) ∧ w = w' := by
  have hc := h.c1
  rw [hg] at hc
  have H : Hid (Dk B w p S V) := h
  have h1 : (i : Int) < 4 := by omega
  have h2 : ¬ ((i : Int) < 0) := by omega
  clear h hg
  go_enter Try.func44, Try.ntmps44
  go_wp2_with fail
  refine (xlack B p S V _ H.out).mono ?_
  rintro e w1 ⟨rfl, rfl⟩
  go_wp2_with fail
  go_ret2
  exact ⟨rfl, rfl⟩
set_option maxHeartbeats 400000 in
theorem xfindg (B p : Nat) (S : St) (V : Nat → Value) (w : World) (h : Dk B w p S V) (i : Int) (hg : S.gone = true) : Calls Try.prog 44 #[.pointer (some ⟨p, 0, none⟩), .int .i64 i] w fun e w' => e = .returned (.tuple #[.pointer none, .int .i64 13]) ∧ w = w' := by
  have hc := h.c1
  rw [hg] at hc
  have H : Hid (Dk B w p S V) := h
  clear h hg
  go_enter Try.func44, Try.ntmps44
  go_wp2_with fail
  refine (xlack B p S V _ H.out).mono ?_
  rintro e w1 ⟨rfl, rfl⟩
  go_wp2_with fail
  go_ret2
  exact ⟨rfl, rfl⟩
set_option maxHeartbeats 400000 in
theorem xfindo (B p : Nat) (S : St) (V : Nat → Value) (w : World) (h : Dk B w p S V) (i : Int) (hi : i < 0 ∨ 3 < i) (hg : S.gone = false) : Calls Try.prog 44 #[.pointer (some ⟨p, 0, none⟩), .int .i64 i] w fun e w' => e = .returned (.tuple #[.pointer none, .int .i64 6]) ∧ w = w' := by
  have hc := h.c1
  rw [hg] at hc
  have H : Hid (Dk B w p S V) := h
  clear h hg
  by_cases h1 : i < 0
  · clear hi
    go_enter Try.func44, Try.ntmps44
    go_wp2_with fail
    refine (xlack B p S V _ H.out).mono ?_
    rintro e w1 ⟨rfl, rfl⟩
    go_wp2_with fail
    go_ret2
    exact ⟨rfl, rfl⟩
  · have h2 : 4 ≤ i := by omega
    clear hi
    go_enter Try.func44, Try.ntmps44
    go_wp2_with fail
    refine (xlack B p S V _ H.out).mono ?_
    rintro e w1 ⟨rfl, rfl⟩
    go_wp2_with fail
    go_ret2
    exact ⟨rfl, rfl⟩
/-- of nil, or of what New didn't make -/
def Lack (w : World) (v : Value) : Prop := v = .pointer none ∨ ∃ p, v = .pointer (some ⟨p, 0, none⟩) ∧ w.cell? ⟨p, 0, none⟩ = some (.bool false)
theorem ylack (v : Value) (w : World) (h : Lack w v) : Calls Try.prog 48 #[v] w fun e w' => e = .returned (.bool true) ∧ w = w' := by
  rcases h with rfl | ⟨p, rfl, hc⟩
  · exact xlackn w
  · exact xlack0 p w hc
theorem yfind (v : Value) (w : World) (h : Lack w v) (i : Int) : Calls Try.prog 44 #[v, .int .i64 i] w fun e w' => e = .returned (.tuple #[.pointer none, .int .i64 3]) ∧ w = w' := by
  have H : Hid (Lack w v) := h
  clear h
  go_enter Try.func44, Try.ntmps44
  go_wp2_with fail
  refine (ylack v _ H.out).mono ?_
  rintro e w1 ⟨rfl, rfl⟩
  go_wp2_with fail
  go_ret2
  exact ⟨rfl, rfl⟩
/-- what a change of the disk leaves: the disk as said, all else as it was -/
def Ch (B p : Nat) (S : St) (V : Nat → Value) (w w' : World) : Prop := Dk B w' p S V ∧ Fr B p w w'
theorem Ch.trans {B p : Nat} {S T : St} {V U : Nat → Value} {a b c : World} (h : Ch B p S V a b) (k : Ch B p T U b c) : Ch B p T U a c := ⟨k.1, h.2.trans k.2⟩
set_option maxHeartbeats 400000 in
theorem xspend (B p : Nat) (S : St) (V : Nat → Value) (w : World) (h : Dk B w p S V) (ok : Ok S) : Calls Try.prog 57 #[.pointer (some ⟨p, 0, none⟩)] w fun e w' => e = .returned (.int .i64 (spd S).2) ∧ Ch B p (spd S).1 V w w' := by
  have hc := h.c2
  have hc1 := h.c1
  have hf1 := h.froz 1
  have hf2 := h.froz 2
  have H : Hid (Dk B w p S V) := h
  have hlo := ok.lo
  have hhi := ok.hi
  rcases spd_cases S with ⟨c, e⟩ | ⟨c, e⟩ | ⟨c, e⟩ <;> rw [e] <;> clear e h ok
  · have HP : Hid (Dk B (w.setCell ⟨p, 1, none⟩ (.bool false)) p { S with gone := true } V) := H.out.setP true
    rw [c] at hc
    clear c hlo hhi
    go_enter Try.func57, Try.ntmps57
    go_wp2
    go_ret
    exact ⟨rfl, HP.out, Fr.set H.out.base _ _⟩
  · have HP : Hid (Dk B (w.setCell ⟨p, 2, none⟩ (.int .i64 (S.lim - 1))) p { S with lim := S.lim - 1 } V) := H.out.setL _
    generalize S.lim = l at *
    have hl : ¬ l = 0 := by omega
    have hl2 : (l == 0) = false := by simpa using hl
    go_enter Try.func57, Try.ntmps57
    go_wp2
    go_ret
    exact ⟨rfl, HP.out, Fr.set H.out.base _ _⟩
  · generalize S.lim = l at *
    have hl : ¬ l = 0 := by omega
    have hl2 : (l == 0) = false := by simpa using hl
    have hl3 : ¬ 0 < l := by omega
    go_enter Try.func57, Try.ntmps57
    go_wp2
    go_ret
    exact ⟨rfl, H.out, Fr.refl _ _ _⟩
set_option maxHeartbeats 400000 in
theorem xlate (B p : Nat) (S : St) (V : Nat → Value) (w : World) (h : Dk B w p S V) (ok : Ok S) (i : Nat) (hi : i < 4) : Calls Try.prog 52 #[.pointer (some ⟨p, 3 + i * 2, none⟩)] w fun e w' => e = .returned (.int .i64 ((S.f i).size - S.s i : Nat)) ∧ ∃ n, w' = w.drewN n := by
  have hc := h.cV hi
  have hs := h.cS hi
  obtain ⟨a, cap, hv, _⟩ := own_sl (h.own i hi)
  rw [hv] at hc
  have h1 := ok.safe i
  have h2 := ok.small i
  have H : Hid (((S.f i).size - S.s i : Nat) = ((S.f i).size : Int) - S.s i) := by show (_ : Int) = _; omega
  rw [H.out]
  generalize (S.f i).size = n at *
  generalize S.s i = m at *
  have h3 : (m : Int) ≤ n := by omega
  have h4 : (n : Int) ≤ 1048576 := by omega
  clear h ok hv H h1 h2
  go_enter Try.func52, Try.ntmps52
  go_wp2
  go_quiet (fail)
  go_wp2
  go_ret
  exact ⟨rfl, _, rfl⟩
set_option maxHeartbeats 400000 in
theorem xsync (B p : Nat) (S : St) (V : Nat → Value) (w : World) (h : Dk B w p S V) (i : Nat) (hi : i < 4) : Calls Try.prog 53 #[.pointer (some ⟨p, 3 + i * 2, none⟩)] w fun e w' => e = .returned (.tuple #[]) ∧ Ch B p { S with s := put S.s i (S.f i).size } V w w' := by
  have hc := h.cV hi
  have hs := h.cS hi
  have hf := h.froz (3 + i * 2 + 1)
  obtain ⟨a, cap, hv, _⟩ := own_sl (h.own i hi)
  rw [hv] at hc
  have HB : Hid (B ≤ p) := h.base
  have HP : Hid (Dk B (w.setCell ⟨p, 3 + i * 2 + 1, none⟩ (.int .i64 ((S.f i).size : Nat))) p { S with s := put S.s i (S.f i).size } V) := h.setS hi _
  generalize (S.f i).size = n at *
  clear h hv
  go_enter Try.func53, Try.ntmps53
  go_wp2
  go_end0
  exact ⟨rfl, HP.out, Fr.set HB.out _ _⟩
set_option maxHeartbeats 400000 in
theorem xcut (B p : Nat) (S : St) (V : Nat → Value) (w : World) (h : Dk B w p S V) (ok : Ok S) (i n : Nat) (hi : i < 4) (hn : n ≤ (S.f i).size) : Calls Try.prog 51 #[.pointer (some ⟨p, 3 + i * 2, none⟩), .int .i64 n] w fun e w' => e = .returned (.tuple #[]) ∧ ∃ v, Ch B p { S with f := put S.f i ((S.f i).extract 0 n), s := put S.s i (min (S.s i) n) } (put V i v) w w' := by
  have hc := h.cV hi
  have hs := h.cS hi
  have hf := h.froz (3 + i * 2)
  have hf1 := h.froz (3 + i * 2 + 1)
  obtain ⟨a, cap, hv, h1, h2, h3, h4⟩ := own_sl (h.own i hi)
  rw [hv] at hc
  have HB : Hid (B ≤ p) := h.base
  have hq := h.setV hi (.slice a n cap) ((S.f i).extract 0 n) (h4 n hn) (fun j hj hne => by rw [h3]; exact h.apart i j hi hj (fun e => hne e.symm))
  have HP : Hid (Dk B ((w.setCell ⟨p, 3 + i * 2, none⟩ (.slice a n cap)).setCell ⟨p, 3 + i * 2 + 1, none⟩ (.int .i64 (min (S.s i) n : Nat))) p { S with f := put S.f i ((S.f i).extract 0 n), s := put S.s i (min (S.s i) n) } (put V i (.slice a n cap))) := hq.setS hi _
  have hs2 := hq.cS hi
  have hf2 := hq.froz (3 + i * 2 + 1)
  have h5 : (n : Int) ≤ cap := by omega
  have hm : ((min (S.s i) n : Nat) : Int) = min (S.s i : Int) n := by omega
  rw [hm] at HP
  clear hq h3 h4 h ok hn h1 hv h2 hm
  generalize (S.s i) = m at *
  generalize (S.f i) = b at *
  go_enter Try.func51, Try.ntmps51
  go_wp2
  go_end0
  exact ⟨rfl, _, HP.out, (Fr.set HB.out _ _).trans (Fr.set HB.out _ _)⟩
/- Read, Len, Late, Limit, Append, Sync, Cut of a disk. -/
theorem chk_cases (S : St) (i : Int) : (S.gone = true ∧ chk S i = 13) ∨ (S.gone = false ∧ (i < 0 ∨ 3 < i) ∧ chk S i = 6) ∨ (S.gone = false ∧ ∃ n : Nat, n < 4 ∧ i = n ∧ chk S i = 0) := by
  unfold chk
  cases hg : S.gone
  · right
    by_cases h : i < 0 ∨ 3 < i
    · left; exact ⟨rfl, h, by rw [if_neg (by simp), if_pos h]⟩
    · right; exact ⟨rfl, i.toNat, by omega, by omega, by rw [if_neg (by simp), if_neg h]⟩
  · left; exact ⟨rfl, by simp⟩
theorem chk_zero {S : St} {i : Int} (h : chk S i = 0) : S.gone = false ∧ ∃ n : Nat, n < 4 ∧ i = n := by
  rcases chk_cases S i with ⟨_, e⟩ | ⟨_, _, e⟩ | ⟨g, n, h1, h2, e⟩
  · omega
  · omega
  · exact ⟨g, n, h1, h2⟩
theorem xfindE (B p : Nat) (S : St) (V : Nat → Value) (w : World) (h : Dk B w p S V) (i c : Int) (hc : chk S i = c) (h0 : ¬ c = 0) : Calls Try.prog 44 #[.pointer (some ⟨p, 0, none⟩), .int .i64 i] w fun e w' => e = .returned (.tuple #[.pointer none, .int .i64 c]) ∧ w = w' := by
  rcases chk_cases S i with ⟨g, e⟩ | ⟨g, hi, e⟩ | ⟨g, n, h1, h2, e⟩
  · rw [← hc, e]; exact xfindg B p S V w h i g
  · rw [← hc, e]; exact xfindo B p S V w h i hi g
  · exact absurd (hc ▸ e) h0
def drd (S : St) (i : Int) : ByteArray := if chk S i = 0 then S.f i.toNat else ⟨#[]⟩
def ln (S : St) (i : Int) : Int := if chk S i = 0 then (S.f i.toNat).size else 0
def lt (S : St) (i : Int) : Int := if chk S i = 0 then ((S.f i.toNat).size - S.s i.toNat : Nat) else 0
theorem Try.u55 : Try.prog.underlying 55 = some (.slice 5) := by kernel_rfl
theorem Try.u5 : Try.prog.underlying 5 = some (.int .u8) := by kernel_rfl
theorem Try.u9 : Try.prog.underlying 9 = some .string := by kernel_rfl
/-- the text of an own row -/
theorem down_text {B : Nat} {w : World} {v : Value} {b : ByteArray} (h : w.ownsRow B 5 1 v b.size (Lib.strCells b)) : (convert 55 9 v).run Try.prog w = .ok (.string b) w := by
  rcases h.2 with ⟨rfl, h0⟩ | ⟨g, cap, cur, rfl, hb, hg, h1, h2, h3, h4⟩
  · have hb : b = ⟨#[]⟩ := by
      have := ByteArray.size_eq_zero_iff.1 h0
      rw [this]; rfl
    rw [hb, run_convert_bytes_string w 55 9 5 none 0 0 Try.u55 Try.u5 Try.u9]
    rfl
  · have := run_convert_bytes_back (P := Try.prog) w 55 9 5 ⟨g, 0, none⟩ cap b.data.toList Try.u55 Try.u5 Try.u9 (fun j hj => by
      refine h.cells (g := g) rfl j _ ?_
      simp only [Lib.strCells, List.getElem?_map, List.getElem?_eq_getElem hj]
      rfl)
    have hl : b.data.toList.length = b.size := by rw [Array.length_toList]; rfl
    rw [hl] at this
    exact this
set_option maxHeartbeats 400000 in
theorem dread (B p : Nat) (S : St) (V : Nat → Value) (w : World) (h : Dk B w p S V) (i : Int) : Calls Try.prog 14 #[.pointer (some ⟨p, 0, none⟩), .int .i64 i] w fun e w' => e = .returned (.tuple #[.string (drd S i), .int .i64 (chk S i)]) ∧ w = w' := by
  have H : Hid (Dk B w p S V) := h
  by_cases h0 : chk S i = 0
  · obtain ⟨hg, n, hn, rfl⟩ := chk_zero h0
    have HR : Hid (drd S n = S.f n) := by show drd S n = S.f n; unfold drd; rw [if_pos h0]; rfl
    have hr := down_text (h.own n hn)
    have hv := h.cV hn
    have HG : Hid (S.gone = false) := hg
    rw [h0, HR.out]
    clear h hg h0 HR
    go_enter Try.func14, Try.ntmps14
    go_wp2_with fail
    refine (xfind B p S V _ H.out n hn HG.out).mono ?_
    rintro e w1 ⟨rfl, rfl⟩
    go_wp2_with fail
    go_ret2
    exact ⟨rfl, rfl⟩
  · have HR : Hid (drd S i = ⟨#[]⟩) := by show drd S i = ⟨#[]⟩; unfold drd; rw [if_neg h0]
    rw [HR.out]
    generalize hc : chk S i = c at *
    have h1 : (c == 0) = false := by simpa using h0
    have HC : Hid (chk S i = c) := hc
    have H0 : Hid (¬ c = 0) := h0
    clear h hc
    go_enter Try.func14, Try.ntmps14
    go_wp2_with fail
    refine (xfindE B p S V _ H.out i c HC.out H0.out).mono ?_
    rintro e w1 ⟨rfl, rfl⟩
    go_wp2_with fail
    go_ret2
    exact ⟨rfl, rfl⟩
set_option maxHeartbeats 400000 in
theorem xlen (B p : Nat) (S : St) (V : Nat → Value) (w : World) (h : Dk B w p S V) (i : Int) : Calls Try.prog 46 #[.pointer (some ⟨p, 0, none⟩), .int .i64 i] w fun e w' => e = .returned (.tuple #[.int .i64 (ln S i), .int .i64 (chk S i)]) ∧ w = w' := by
  have H : Hid (Dk B w p S V) := h
  by_cases h0 : chk S i = 0
  · obtain ⟨hg, n, hn, rfl⟩ := chk_zero h0
    have HR : Hid (ln S n = (S.f n).size) := by show ln S n = (S.f n).size; unfold ln; rw [if_pos h0]; rfl
    obtain ⟨a, cap, hw, _⟩ := own_sl (h.own n hn)
    have hv := h.cV hn
    rw [hw] at hv
    have HG : Hid (S.gone = false) := hg
    rw [h0, HR.out]
    clear h hg h0 HR hw
    go_enter Try.func46, Try.ntmps46
    go_wp2_with fail
    refine (xfind B p S V _ H.out n hn HG.out).mono ?_
    rintro e w1 ⟨rfl, rfl⟩
    go_wp2_with fail
    go_ret2
    exact ⟨rfl, rfl⟩
  · have HR : Hid (ln S i = 0) := by show ln S i = 0; unfold ln; rw [if_neg h0]
    rw [HR.out]
    generalize hc : chk S i = c at *
    have h1 : (c == 0) = false := by simpa using h0
    have HC : Hid (chk S i = c) := hc
    have H0 : Hid (¬ c = 0) := h0
    clear h hc
    go_enter Try.func46, Try.ntmps46
    go_wp2_with fail
    refine (xfindE B p S V _ H.out i c HC.out H0.out).mono ?_
    rintro e w1 ⟨rfl, rfl⟩
    go_wp2_with fail
    go_ret2
    exact ⟨rfl, rfl⟩
theorem xlimit (B p : Nat) (S : St) (V : Nat → Value) (w : World) (h : Dk B w p S V) (n : Int) : Calls Try.prog 23 #[.pointer (some ⟨p, 0, none⟩), .int .i64 n] w fun e w' => e = .returned (.tuple #[]) ∧ Ch B p { S with lim := n } V w w' := by
  have H : Hid (Dk B w p S V) := h
  have hc := h.c2
  have hf := h.froz 2
  have HP : Hid (Dk B (w.setCell ⟨p, 2, none⟩ (.int .i64 n)) p { S with lim := n } V) := h.setL n
  clear h
  go_enter Try.func23, Try.ntmps23
  go_wp2_with fail
  refine (xlack B p S V _ H.out).mono ?_
  rintro e w1 ⟨rfl, rfl⟩
  go_wp2_with fail
  go_end0
  exact ⟨rfl, HP.out, Fr.set H.out.base _ _⟩
/-- a change's error -/
theorem chg_e (S : St) (e : Int) (g : St → St) (h : ¬ e = 0) : chg S e g = (S, e) := by unfold chg; rw [if_pos h]
theorem chg_0 (S : St) (g : St → St) (h : (spd S).2 = 0) : chg S 0 g = (g (spd S).1, 0) := by unfold chg; rw [if_neg (by simp), if_neg (by simp [h])]
theorem chg_c (S : St) (g : St → St) (h : ¬ (spd S).2 = 0) : chg S 0 g = spd S := by unfold chg; rw [if_neg (by simp), if_pos h]
set_option maxHeartbeats 400000 in
theorem xsyncD (B p : Nat) (S : St) (V : Nat → Value) (w : World) (h : Dk B w p S V) (ok : Ok S) (i : Int) : Calls Try.prog 56 #[.pointer (some ⟨p, 0, none⟩), .int .i64 i] w fun e w' => e = .returned (.int .i64 (syn S i).2) ∧ Ch B p (syn S i).1 V w w' := by
  have H : Hid (Dk B w p S V) := h
  have HO : Hid (Ok S) := ok
  by_cases h0 : chk S i = 0
  · obtain ⟨hg, n, hn, rfl⟩ := chk_zero h0
    have HG : Hid (S.gone = false) := hg
    unfold syn
    rw [h0]
    by_cases h1 : (spd S).2 = 0
    · rw [chg_0 _ _ h1]
      have HS : Hid ((spd S).2 = 0) := h1
      clear h hg h0 ok h1
      go_enter Try.func56, Try.ntmps56
      go_wp2_with fail
      refine (xfind B p S V _ H.out n hn HG.out).mono ?_
      rintro e w1 ⟨rfl, rfl⟩
      go_wp2_with fail
      refine (xspend B p S V _ H.out HO.out).mono ?_
      rw [HS.out]
      rintro e w1 ⟨rfl, h1⟩
      have H1 : Hid (Ch B p (spd S).1 V w w1) := h1
      clear h1
      go_wp2_with fail
      refine (xsync B p (spd S).1 V _ H1.out.1 n hn).mono ?_
      rintro e w2 ⟨rfl, h2⟩
      have H2 : Hid (Ch B p _ V w1 w2) := h2
      clear h2
      go_wp2_with fail
      go_ret
      exact ⟨rfl, H1.out.trans H2.out⟩
    · rw [chg_c _ _ h1]
      generalize hc : (spd S).2 = c at *
      have HS : Hid ((spd S).2 = c) := hc
      have h2 : (c == 0) = false := by simpa using h1
      clear h hg h0 ok h1 hc
      go_enter Try.func56, Try.ntmps56
      go_wp2_with fail
      refine (xfind B p S V _ H.out n hn HG.out).mono ?_
      rintro e w1 ⟨rfl, rfl⟩
      go_wp2_with fail
      refine (xspend B p S V _ H.out HO.out).mono ?_
      rw [HS.out]
      rintro e w1 ⟨rfl, h1⟩
      have H1 : Hid (Ch B p (spd S).1 V w w1) := h1
      clear h1
      go_wp2_with fail
      go_ret
      exact ⟨rfl, H1.out⟩
  · unfold syn
    rw [chg_e _ _ _ h0]
    clear ok
    generalize hc : chk S i = c at *
    have h1 : (c == 0) = false := by simpa using h0
    have HC : Hid (chk S i = c) := hc
    have H0 : Hid (¬ c = 0) := h0
    clear h hc
    go_enter Try.func56, Try.ntmps56
    go_wp2_with fail
    refine (xfindE B p S V _ H.out i c HC.out H0.out).mono ?_
    rintro e w1 ⟨rfl, rfl⟩
    go_wp2_with fail
    go_ret
    exact ⟨rfl, H.out, Fr.refl _ _ _⟩
/- Append and Cut of a disk: bytes behind an own row. -/
theorem Try.info5 : (Try.prog.info? 5).map (fun i => (i.zero, i.size, i.bytes)) = some (some (.int .u8 0), 1, 1) := by kernel_rfl
theorem info_parts {P : Program} {t : TypeId} {z : Value} {s b : Nat} (h : (P.info? t).map (fun i => (i.zero, i.size, i.bytes)) = some (some z, s, b)) : ∃ i, P.info? t = some i ∧ i.zero = some z ∧ i.size = s ∧ i.bytes = b := by
  obtain ⟨i, hi, he⟩ := Option.map_eq_some_iff.1 h
  simp only [Prod.mk.injEq] at he
  exact ⟨i, hi, he.1, he.2.1, he.2.2⟩
set_option maxRecDepth 100000 in
theorem app_own {B : Nat} {w : World} {v : Value} {b : ByteArray} (h : w.ownsRow B 5 1 v b.size (Lib.strCells b)) (hB : B ≤ w.heap.size) (s : ByteArray) (hs : b.size + s.size ≤ 1048576) :
    ∃ v' w', (Builtin.append_ #[55, 9] 55 #[v, .string s]).run Try.prog w = .ok v' w' ∧ w'.ownsRow B 5 1 v' (b ++ s).size (Lib.strCells (b ++ s)) ∧ w.grownBy w' v.ownBlock ∧ (v'.ownBlock = v.ownBlock ∨ v'.ownBlock = some w.heap.size) := by
  obtain ⟨i0, hi, hz, h1, h2⟩ := info_parts Try.info5
  have hm : b.size + s.size ≤ maxLen := by unfold maxLen; omega
  obtain ⟨v', w', hr, ho, hg, hn⟩ := Lib.run_append_own_string (P := Try.prog) w B 55 9 55 5 i0 Try.u55 Try.u9 hi hz h1 h2 v b.size _ h s hm (by omega) hB
  refine ⟨v', w', hr, by rw [ByteArray.size_append, strCells_app]; exact ho, hg, ?_⟩
  rcases h.2 with ⟨rfl, h0⟩ | ⟨g, cap, cur, rfl, hb, hg, h1', h2', h3, h4⟩
  · by_cases c : s.size = 0
    · left
      rw [hn.2 ⟨rfl, c⟩]
    · right
      rw [run_append_nil_string (P := Try.prog) w 55 9 55 5 i0 _ Try.u55 Try.u9 hi hz s (by omega) (by omega) (by rw [h2]; omega)] at hr
      injection hr with e1 _
      rw [← e1]
      rfl
  · by_cases c : b.size + s.size ≤ cap
    · left
      rw [Lib.run_append_room_string (P := Try.prog) w 55 9 55 5 i0 Try.u55 Try.u9 hi h1 g b.size cap cur hg s c (by omega)] at hr
      injection hr with e1 _
      rw [← e1]
      rfl
    · right
      rw [Lib.run_append_grow_string (P := Try.prog) w 55 9 55 5 i0 _ Try.u55 Try.u9 hi hz ⟨g, 0, none⟩ b.size cap (Lib.strCells b) (by rw [h1, Lib.strCells_length]; omega) (h.cells (g := g) rfl) s (by omega) (by omega) (by rw [h2]; exact growslice_fits (by omega) (by omega))] at hr
      injection hr with e1 _
      rw [← e1]
      rfl
section
variable {B p : Nat} {w w' : World} {S : St} {V : Nat → Value}
theorem Dk.gblk (h : Dk B w p S V) {i : Nat} (hi : i < 4) (hg : w.grownBy w' (V i).ownBlock) : w'.heap[p]? = some (.cells (dcells S V) 79 (0, 0)) :=
  (hg.block p h.lt (fun e => own_ne (h.own i hi) h.blk (by decide) e.symm)).trans h.blk
theorem Dk.appd (h : Dk B w p S V) {i : Nat} (hi : i < 4) {v' : Value} {b : ByteArray} (hg : w.grownBy w' (V i).ownBlock) (ho : w'.ownsRow B 5 1 v' b.size (Lib.strCells b)) (hat : v'.ownBlock = (V i).ownBlock ∨ v'.ownBlock = some w.heap.size) :
    Dk B (w'.setCell ⟨p, 3 + i * 2, none⟩ v') p { S with f := put S.f i b } (put V i v') := by
  have hp := h.gblk hi hg
  have hv : ∀ j, j < 4 → j ≠ i → v'.ownBlock = none ∨ v'.ownBlock ≠ (V j).ownBlock := by
    intro j hj hne
    rcases hat with e | e
    · rw [e]; exact h.apart i j hi hj (fun q => hne q.symm)
    · right
      rw [e]
      intro q
      have := ((h.own j hj).lt _ q.symm).2
      omega
  have hset : ∀ {u : Value} {n : Nat} {xs : List Value}, w'.ownsRow B 5 1 u n xs → (w'.setCell ⟨p, 3 + i * 2, none⟩ v').ownsRow B 5 1 u n xs := fun q =>
    own_same q fun g hg => Below.heap_setCell w' _ v' g (by intro e; exact own_ne q hp (by decide) (by rw [hg, e]))
  refine ⟨h.base, ?_, fun j hj => ?_, fun j k hj hk hne => ?_⟩
  · rw [set_blk hp]
    rcases lt4 hi with rfl | rfl | rfl | rfl <;> simp [dcells, put]
  · by_cases c : j = i
    · subst c; simp only [put_eq]; exact hset ho
    · simp only [put_ne _ _ _ _ c]
      exact hset ((h.own j hj).kept hg (h.apart j i hj hi c))
  · by_cases c : j = i
    · subst c; rw [put_eq, put_ne _ _ _ _ (fun e => hne e.symm)]; exact hv k hk (fun e => hne e.symm)
    · rw [put_ne _ _ _ _ c]
      by_cases d : k = i
      · subst d
        rw [put_eq]
        rcases hv j hj c with e | e
        · rw [e]
          rcases hv : (V j).ownBlock with _ | g
          · exact .inl rfl
          · exact .inr (by simp)
        · exact .inr (fun q => e q.symm)
      · rw [put_ne _ _ _ _ d]; exact h.apart j k hj hk hne
theorem Dk.appf (h : Dk B w p S V) {i : Nat} (hi : i < 4) (hg : w.grownBy w' (V i).ownBlock) (v' : Value) : Fr B p w (w'.setCell ⟨p, 3 + i * 2, none⟩ v') := by
  refine ⟨((Below.refl _ _).grown hg h.bw fun k e => ((h.own i hi).lt k e).1).setCell h.base _, Lib.OthersKept.setCell (b := p) ((Lib.OthersKept.refl 5 (some p) w).grown hg fun g hg' => ?_) _ rfl _⟩
  rcases (h.own i hi).2 with ⟨e, _⟩ | ⟨g', cap, cur, e, _, hgg, _⟩
  · rw [e] at hg'; cases hg'
  · rw [e] at hg'
    obtain rfl : g' = g := Option.some.inj hg'
    exact ⟨cur, _, hgg⟩
end
theorem full_cases (S : St) (n t : Nat) (h : chk S n = 0) : (1048576 < (S.f n).size + t ∧ full S n t = 18) ∨ ((S.f n).size + t ≤ 1048576 ∧ full S n t = 0) := by
  unfold full
  rw [if_neg (by simp [h])]
  by_cases c : 1048576 < (S.f n).size + t
  · exact .inl ⟨c, if_pos c⟩
  · exact .inr ⟨by omega, if_neg c⟩
set_option maxHeartbeats 400000 in
theorem xappend (B p : Nat) (S : St) (V : Nat → Value) (w : World) (h : Dk B w p S V) (ok : Ok S) (i : Int) (t : ByteArray) (ht : t.size ≤ maxLen) : Calls Try.prog 43 #[.pointer (some ⟨p, 0, none⟩), .int .i64 i, .string t] w fun e w' => e = .returned (.int .i64 (app S i t).2) ∧ ∃ V', Ch B p (app S i t).1 V' w w' := by
  unfold maxLen at ht
  have H : Hid (Dk B w p S V) := h
  have HO : Hid (Ok S) := ok
  by_cases h0 : chk S i = 0
  · obtain ⟨hg, n, hn, rfl⟩ := chk_zero h0
    have HG : Hid (S.gone = false) := hg
    obtain ⟨a, cap, hw, _⟩ := own_sl (h.own n hn)
    have hv := h.cV hn
    rw [hw] at hv
    have hsm := ok.small n
    unfold app
    rcases full_cases S n t.size h0 with ⟨hf, he⟩ | ⟨hf, he⟩
    · rw [he, chg_e _ _ _ (by omega)]
      have hf' : (1048576 : Int) - (S.f n).size < t.size := by omega
      have hsm' : ((S.f n).size : Int) ≤ 1048576 := by omega
      clear h hg h0 ok hw hf he hsm
      generalize (S.f n).size = m at *
      go_enter Try.func43, Try.ntmps43
      go_wp2_with fail
      refine (xfind B p S V _ H.out n hn HG.out).mono ?_
      rintro e w1 ⟨rfl, rfl⟩
      go_wp2_with fail
      go_ret
      exact ⟨rfl, _, H.out, Fr.refl _ _ _⟩
    · rw [he]
      have hf' : ¬ (1048576 : Int) - (S.f n).size < t.size := by omega
      have hsm' : ((S.f n).size : Int) ≤ 1048576 := by omega
      have HF : Hid ((S.f n).size + t.size ≤ 1048576) := hf
      by_cases h1 : (spd S).2 = 0
      · rw [chg_0 _ _ h1]
        have HS : Hid ((spd S).2 = 0) := h1
        have HZ : Hid (V n = .slice a (S.f n).size cap) := hw
        clear h hg h0 ok h1 he hf hsm hw
        generalize hm : (S.f n).size = m at hv hf' hsm' HZ
        have HM : Hid ((S.f n).size = m) := hm
        clear hm
        go_enter Try.func43, Try.ntmps43
        go_wp2_with fail
        refine (xfind B p S V _ H.out n hn HG.out).mono ?_
        rintro e w1 ⟨rfl, rfl⟩
        go_wp2_with fail
        refine (xspend B p S V _ H.out HO.out).mono ?_
        rw [HS.out]
        rintro e w1 ⟨rfl, h1⟩
        have H1 : Hid (Ch B p (spd S).1 V w w1) := h1
        have hv1 := h1.1.cV hn
        have ho := h1.1.own n hn
        rw [(spd_f S).1] at ho
        obtain ⟨v', w2, hr, ho2, hgr, hat⟩ := app_own ho h1.1.bw t HF.out
        have HD : Hid (Dk B (w2.setCell ⟨p, 3 + n * 2, none⟩ v') p { (spd S).1 with f := put (spd S).1.f n ((spd S).1.f n ++ t) } (put V n v')) := by
          refine h1.1.appd hn hgr ?_ hat
          rw [(spd_f S).1]
          exact ho2
        have HFr : Hid (Fr B p w1 (w2.setCell ⟨p, 3 + n * 2, none⟩ v')) := h1.1.appf hn hgr v'
        have hp2 := h1.1.gblk hn hgr
        have hc2 : w2.cell? ⟨p, 3 + n * 2, none⟩ = some (V n) := by
          rw [cell_of_row w2 p _ _ 79 (0, 0) hp2, ← h1.1.cell]
          exact hv1
        have hf2 : w2.frozen? ⟨p, 3 + n * 2, none⟩ = false := by simp [World.frozen?, hp2]
        rw [HZ.out] at hv1 hr hc2
        obtain ⟨a', cap', hv', _⟩ := own_sl ho2
        generalize (S.f n ++ t).size = m' at hv'
        subst hv'
        clear h1 ho hgr hat ho2 hp2 hv HZ
        go_wp2_with (at_builtin; refine Lib.wpList_append_run _ rfl _ _ 55 9 rfl _ _ rfl rfl _ w2 hr ?_)
        go_ret
        exact ⟨rfl, _, H1.out.trans ⟨HD.out, HFr.out⟩⟩
      · rw [chg_c _ _ h1]
        generalize hc : (spd S).2 = c at *
        have HS : Hid ((spd S).2 = c) := hc
        have h2 : (c == 0) = false := by simpa using h1
        clear h hg h0 ok h1 hc hw hf he hsm
        generalize (S.f n).size = m at *
        go_enter Try.func43, Try.ntmps43
        go_wp2_with fail
        refine (xfind B p S V _ H.out n hn HG.out).mono ?_
        rintro e w1 ⟨rfl, rfl⟩
        go_wp2_with fail
        refine (xspend B p S V _ H.out HO.out).mono ?_
        rw [HS.out]
        rintro e w1 ⟨rfl, h1⟩
        have H1 : Hid (Ch B p (spd S).1 V w w1) := h1
        clear h1
        go_wp2_with fail
        go_ret
        exact ⟨rfl, _, H1.out⟩
  · have hf : full S i t.size = chk S i := by unfold full; rw [if_pos h0]
    unfold app
    rw [hf, chg_e _ _ _ h0]
    clear ok hf
    generalize hc : chk S i = c at *
    have h1 : (c == 0) = false := by simpa using h0
    have HC : Hid (chk S i = c) := hc
    have H0 : Hid (¬ c = 0) := h0
    clear h hc
    go_enter Try.func43, Try.ntmps43
    go_wp2_with fail
    refine (xfindE B p S V _ H.out i c HC.out H0.out).mono ?_
    rintro e w1 ⟨rfl, rfl⟩
    go_wp2_with fail
    go_ret
    exact ⟨rfl, _, H.out, Fr.refl _ _ _⟩
theorem arg_cases (S : St) (n : Nat) (m : Int) (h : chk S n = 0) : ((m < 0 ∨ ((S.f n).size : Int) < m) ∧ argE S n m = 1) ∨ (∃ k : Nat, m = k ∧ k ≤ (S.f n).size ∧ argE S n m = 0) := by
  unfold argE
  rw [if_neg (by simp [h])]
  by_cases c : m < 0 ∨ ((S.f n).size : Int) < m
  · exact .inl ⟨c, if_pos c⟩
  · exact .inr ⟨m.toNat, by omega, by omega, if_neg c⟩
set_option maxHeartbeats 400000 in
theorem xcutD (B p : Nat) (S : St) (V : Nat → Value) (w : World) (h : Dk B w p S V) (ok : Ok S) (i m : Int) : Calls Try.prog 31 #[.pointer (some ⟨p, 0, none⟩), .int .i64 i, .int .i64 m] w fun e w' => e = .returned (.int .i64 (ctf S i m).2) ∧ ∃ V', Ch B p (ctf S i m).1 V' w w' := by
  have H : Hid (Dk B w p S V) := h
  have HO : Hid (Ok S) := ok
  by_cases h0 : chk S i = 0
  · obtain ⟨hg, n, hn, rfl⟩ := chk_zero h0
    have HG : Hid (S.gone = false) := hg
    obtain ⟨a, cap, hw, _⟩ := own_sl (h.own n hn)
    have hv := h.cV hn
    rw [hw] at hv
    have hsm := ok.small n
    unfold ctf
    rcases arg_cases S n m h0 with ⟨hf, he⟩ | ⟨k, rfl, hk, he⟩
    · rw [he, chg_e _ _ _ (by omega)]
      have hsm' : ((S.f n).size : Int) ≤ 1048576 := by omega
      clear h hg h0 ok hw he hsm
      generalize (S.f n).size = z at *
      by_cases hm : m < 0
      · clear hf
        go_enter Try.func31, Try.ntmps31
        go_wp2_with fail
        refine (xfind B p S V _ H.out n hn HG.out).mono ?_
        rintro e w1 ⟨rfl, rfl⟩
        go_wp2_with fail
        go_ret
        exact ⟨rfl, _, H.out, Fr.refl _ _ _⟩
      · have hm2 : (z : Int) < m := by omega
        clear hf
        go_enter Try.func31, Try.ntmps31
        go_wp2_with fail
        refine (xfind B p S V _ H.out n hn HG.out).mono ?_
        rintro e w1 ⟨rfl, rfl⟩
        go_wp2_with fail
        go_ret
        exact ⟨rfl, _, H.out, Fr.refl _ _ _⟩
    · rw [he]
      have hsm' : ((S.f n).size : Int) ≤ 1048576 := by omega
      have HF : Hid (k ≤ (S.f n).size) := hk
      have hk' : (k : Int) ≤ (S.f n).size := by omega
      by_cases h1 : (spd S).2 = 0
      · rw [chg_0 _ _ h1]
        have HS : Hid ((spd S).2 = 0) := h1
        clear h hg h0 ok h1 he hsm hw hk
        generalize hz : (S.f n).size = z at hv hsm' hk'
        have HM : Hid ((S.f n).size = z) := hz
        clear hz
        go_enter Try.func31, Try.ntmps31
        go_wp2_with fail
        refine (xfind B p S V _ H.out n hn HG.out).mono ?_
        rintro e w1 ⟨rfl, rfl⟩
        go_wp2_with fail
        refine (xspend B p S V _ H.out HO.out).mono ?_
        rw [HS.out]
        rintro e w1 ⟨rfl, h1⟩
        have H1 : Hid (Ch B p (spd S).1 V w w1) := h1
        clear h1
        go_wp2_with fail
        refine (xcut B p (spd S).1 V _ H1.out.1 (spd_ok HO.out) n k hn (by rw [(spd_f S).1]; exact HF.out)).mono ?_
        rintro e w2 ⟨rfl, v', h2⟩
        have H2 : Hid (Ch B p _ _ w1 w2) := h2
        clear h2
        go_wp2_with fail
        go_ret
        exact ⟨rfl, _, H1.out.trans H2.out⟩
      · rw [chg_c _ _ h1]
        generalize hc : (spd S).2 = c at *
        have HS : Hid ((spd S).2 = c) := hc
        have h2 : (c == 0) = false := by simpa using h1
        clear h hg h0 ok h1 hc hw he hsm hk
        generalize (S.f n).size = z at *
        go_enter Try.func31, Try.ntmps31
        go_wp2_with fail
        refine (xfind B p S V _ H.out n hn HG.out).mono ?_
        rintro e w1 ⟨rfl, rfl⟩
        go_wp2_with fail
        refine (xspend B p S V _ H.out HO.out).mono ?_
        rw [HS.out]
        rintro e w1 ⟨rfl, h1⟩
        have H1 : Hid (Ch B p (spd S).1 V w w1) := h1
        clear h1
        go_wp2_with fail
        go_ret
        exact ⟨rfl, _, H1.out⟩
  · have hf : argE S i m = chk S i := by unfold argE; rw [if_pos h0]
    unfold ctf
    rw [hf, chg_e _ _ _ h0]
    clear ok hf
    generalize hc : chk S i = c at *
    have h1 : (c == 0) = false := by simpa using h0
    have HC : Hid (chk S i = c) := hc
    have H0 : Hid (¬ c = 0) := h0
    clear h hc
    go_enter Try.func31, Try.ntmps31
    go_wp2_with fail
    refine (xfindE B p S V _ H.out i c HC.out H0.out).mono ?_
    rintro e w1 ⟨rfl, rfl⟩
    go_wp2_with fail
    go_ret
    exact ⟨rfl, _, H.out, Fr.refl _ _ _⟩
/- New and Crash of a disk. -/
theorem Fr.alloc {B p : Nat} {a w : World} (h : Fr B p a w) (hB : B ≤ w.heap.size) (o : Obj) : Fr B p a (w.alloc o) := ⟨h.1.alloc hB o, h.2.alloc o⟩
theorem xnew (B : Nat) (w : World) (hB : B ≤ w.heap.size) : Calls Try.prog 9 #[] w fun e w' => e = .returned (.pointer (some ⟨w.heap.size, 0, none⟩)) ∧ (∃ V, Dk B w' w.heap.size new V) ∧ Below w.heap.size w w' := by
  have HB : Hid (B ≤ w.heap.size) := hB
  clear hB
  go_enter Try.func9, Try.ntmps9
  go_wp2
  go_ret
  refine ⟨rfl, ⟨fun _ => .slice none 0 0, HB.out, heap_alloc_new w _, fun i _ => ⟨rfl, .inl ⟨rfl, rfl⟩⟩, fun i j _ _ _ => .inl rfl⟩, (Below.refl _ _).alloc (Nat.le_refl _) _⟩
/-- the first n files are as a crash leaves them -/
def crsTo (S : St) (K : Nat → Int) (n : Nat) : St := { f := fun j => if j < n then (crs S K).f j else S.f j, s := fun j => if j < n then (crs S K).s j else S.s j, lim := S.lim, gone := S.gone }
theorem crsTo_zero (S : St) (K : Nat → Int) : crsTo S K 0 = S := by simp [crsTo]
theorem crsTo_ok {S : St} (h : Ok S) (K : Nat → Int) (n : Nat) : Ok (crsTo S K n) := by
  have hc := crs_ok h K
  refine ⟨fun j => ?_, fun j => ?_, h.lo, h.hi⟩
  · show (if j < n then (crs S K).s j else S.s j) ≤ (if j < n then (crs S K).f j else S.f j).size
    by_cases c : j < n
    · rw [if_pos c, if_pos c]; exact hc.safe j
    · rw [if_neg c, if_neg c]; exact h.safe j
  · show (if j < n then (crs S K).f j else S.f j).size ≤ _
    by_cases c : j < n
    · rw [if_pos c]; exact hc.small j
    · rw [if_neg c]; exact h.small j
theorem crsTo_f (S : St) (K : Nat → Int) (n : Nat) : (crsTo S K n).f n = S.f n ∧ (crsTo S K n).s n = S.s n := by simp [crsTo]
def kcells (K : Nat → Int) : Array Value := #[.int .i64 (K 0), .int .i64 (K 1), .int .i64 (K 2), .int .i64 (K 3)]
/-- the next file -/
theorem crsTo_next {B p : Nat} {w : World} {S : St} {V : Nat → Value} (hok : Ok S) (K : Nat → Int) (n : Nat) (m : Nat) (hm : m = lft (S.f n).size (S.s n) (K n)) (x : Nat)
    (h : Dk B w p { crsTo S K n with f := put (crsTo S K n).f n (((crsTo S K n).f n).extract 0 m), s := put (put (crsTo S K n).s n x) n ((put (crsTo S K n).f n (((crsTo S K n).f n).extract 0 m)) n).size } V) : Dk B w p (crsTo S K (n + 1)) V := by
  have hl := lft_le (S.f n).size (S.s n) (K n) (hok.safe n)
  have e : ({ crsTo S K n with f := put (crsTo S K n).f n (((crsTo S K n).f n).extract 0 m), s := put (put (crsTo S K n).s n x) n ((put (crsTo S K n).f n (((crsTo S K n).f n).extract 0 m)) n).size } : St) = crsTo S K (n + 1) := by
    unfold crsTo
    simp only [St.mk.injEq, and_true]
    refine ⟨funext fun j => ?_, funext fun j => ?_⟩
    · by_cases c : j = n
      · subst c
        rw [put_eq]
        simp [crs, hm]
      · rw [put_ne _ _ _ _ c]
        by_cases d : j < n
        · rw [if_pos d, if_pos (by omega)]
        · rw [if_neg d, if_neg (by omega)]
    · by_cases c : j = n
      · subst c
        rw [put_eq, put_eq]
        simp only [Nat.lt_irrefl, if_false, Nat.lt_succ_self, if_true]
        rw [size_extract0 _ _ (by omega), hm]
        rfl
      · rw [put_ne _ _ _ _ c, put_ne _ _ _ _ c]
        by_cases d : j < n
        · rw [if_pos d, if_pos (by omega)]
        · rw [if_neg d, if_neg (by omega)]
  rw [e] at h
  exact h
theorem lft_int (n s : Nat) (k : Int) (h : s ≤ n) : (s : Int) + max 0 (min k ((n - s : Nat) : Int)) = (lft n s k : Int) := by unfold lft; omega
set_option maxHeartbeats 1000000 in
theorem xcrash (B p : Nat) (S : St) (V : Nat → Value) (w : World) (h : Dk B w p S V) (ok : Ok S) (K : Nat → Int) (hK : ∀ j, -9223372036854775808 ≤ K j ∧ K j ≤ 9223372036854775807) : Calls Try.prog 27 #[.pointer (some ⟨p, 0, none⟩), .agg (kcells K)] w fun e w' => e = .returned (.tuple #[]) ∧ ∃ V', Ch B p (crs S K) V' w w' := by
  have H : Hid (Dk B w p S V) := h
  have HO : Hid (Ok S) := ok
  have HK : Hid (∀ j, -9223372036854775808 ≤ K j ∧ K j ≤ 9223372036854775807) := hK
  clear h ok hK
  unfold kcells
  go_enter Try.func27, Try.ntmps27
  go_wp2_with fail
  refine (xlack B p S V _ (H.out.alloc _)).mono ?_
  rintro e w1 ⟨rfl, rfl⟩
  go_wp2_with fail
  show Code.wp _ _ _ _ (w.alloc (.cells (kcells K) 41))
  go_loopw [8] (fun i wr => ∃ (k : Nat) (V' : Nat → Value), k ≤ 4 ∧ i = .int .i64 k ∧ Hid (Dk B wr p (crsTo S K k) V') ∧ Hid (Fr B p w wr) ∧ Hid (wr.heap[w.heap.size]? = some (.cells (kcells K) 41 (0, 0)))) (fun i _ => 4 - (intOf i).toNat)
  case atStart => exact ⟨0, V, by omega, rfl, by rw [crsTo_zero]; exact H.out.alloc _, (Fr.refl _ _ _).alloc H.out.bw _, heap_alloc_new w _⟩
  case round =>
    obtain ⟨k, U, hk, rfl, HD, HF, HC⟩ := hrel
    by_cases hlt : k < 4
    · have hk4 : (k : Int) < 4 := by omega
      have hs : wr.cell? ⟨p, 3 + k * 2 + 1, none⟩ = some (.int .i64 (S.s k)) := by
        have := HD.out.cS hlt
        rw [(crsTo_f S K k).2] at this
        exact this
      have hc : wr.cell? ⟨w.heap.size, k, none⟩ = some (.int .i64 (K k)) := by
        rw [cell_of_row wr _ k _ 41 (0, 0) HC.out]
        rcases lt4 hlt with rfl | rfl | rfl | rfl <;> rfl
      have hKk := HK.out k
      have HI : Hid ((S.s k : Int) + max 0 (min (K k) (((S.f k).size - S.s k : Nat) : Int)) = (lft (S.f k).size (S.s k) (K k) : Int)) := lft_int _ _ _ (HO.out.safe k)
      have hb1 := HO.out.safe k
      have hb2 := HO.out.small k
      have HL : Hid (∀ n, Calls Try.prog 52 #[.pointer (some ⟨p, 3 + k * 2, none⟩)] (wr.drewN n) fun e w' => e = .returned (.int .i64 ((S.f k).size - S.s k : Nat)) ∧ ∃ n', w' = (wr.drewN n).drewN n') := by
        intro n
        have := xlate B p (crsTo S K k) U (wr.drewN n) (HD.out.drewN n) (crsTo_ok HO.out K k) k hlt
        rw [(crsTo_f S K k).1, (crsTo_f S K k).2] at this
        exact this
      have HV : Hid (∀ w', Dk B w' p (crsTo S K k) U → Calls Try.prog 51 #[.pointer (some ⟨p, 3 + k * 2, none⟩), .int .i64 (lft (S.f k).size (S.s k) (K k) : Nat)] w' fun e w2 => e = .returned (.tuple #[]) ∧ ∃ v, Ch B p { crsTo S K k with f := put (crsTo S K k).f k (((crsTo S K k).f k).extract 0 (lft (S.f k).size (S.s k) (K k))), s := put (crsTo S K k).s k (min ((crsTo S K k).s k) (lft (S.f k).size (S.s k) (K k))) } (put U k v) w' w2) := by
        intro w' hd
        exact xcut B p (crsTo S K k) U w' hd (crsTo_ok HO.out K k) k _ hlt (by rw [(crsTo_f S K k).1]; exact (lft_le _ _ _ (HO.out.safe k)).2)
      have hi1 : (S.s k : Int) ≤ 1048576 := by omega
      have hi2 : (((S.f k).size - S.s k : Nat) : Int) ≤ 1048576 := by omega
      have hi3 : (0 : Int) ≤ max 0 (min (K k) (((S.f k).size - S.s k : Nat) : Int)) := by omega
      have hi4 : max 0 (min (K k) (((S.f k).size - S.s k : Nat) : Int)) ≤ 1048576 := by omega
      have HW : Hid (IntKind.i64.wrap ((S.s k : Int) + max 0 (min (K k) (((S.f k).size - S.s k : Nat) : Int))) = (lft (S.f k).size (S.s k) (K k) : Nat)) := by
        show _ = _
        refine (IntWalk.i64_in _ ⟨?_, ?_⟩).trans HI.out <;> omega
      have HNX : Hid (∀ (w2 : World) (U2 : Nat → Value) (x : Nat), Dk B w2 p { crsTo S K k with f := put (crsTo S K k).f k (((crsTo S K k).f k).extract 0 (lft (S.f k).size (S.s k) (K k))), s := put (put (crsTo S K k).s k x) k ((put (crsTo S K k).f k (((crsTo S K k).f k).extract 0 (lft (S.f k).size (S.s k) (K k)))) k).size } U2 → Dk B w2 p (crsTo S K (k + 1)) U2) := fun w2 U2 x hd => crsTo_next HO.out K k _ rfl x hd
      have HKP : Hid (∀ (n : Nat) (v : Value) (w2 : World), Ch B p { crsTo S K k with f := put (crsTo S K k).f k (((crsTo S K k).f k).extract 0 (lft (S.f k).size (S.s k) (K k))), s := put (crsTo S K k).s k (min ((crsTo S K k).s k) (lft (S.f k).size (S.s k) (K k))) } (put U k v) (wr.drewN n) w2 → w2.cell? ⟨p, 3 + k * 2 + 1, none⟩ = some (.int .i64 (S.s k)) ∧ w2.cell? ⟨w.heap.size, k, none⟩ = some (.int .i64 (K k))) := by
        intro n v w2 h2
        have hl := (lft_le _ _ (K k) (HO.out.safe k)).1
        refine ⟨?_, ?_⟩
        · rw [h2.1.cS hlt]
          simp only [put_eq, (crsTo_f S K k).2]
          rw [Nat.min_eq_left hl]
        · rw [cell_of_row w2 _ k _ 41 (0, 0) (h2.2.keep (show (wr.drewN n).heap[w.heap.size]? = _ from HC.out) (by decide) (by have := H.out.lt; omega))]
          rcases lt4 hlt with rfl | rfl | rfl | rfl <;> rfl
      generalize lft (S.f k).size (S.s k) (K k) = L at *
      generalize hlz : (((S.f k).size - S.s k : Nat) : Int) = z at *
      generalize (S.s k) = sk at *
      generalize (K k) = kk at *
      clear hb1 hb2 hlz
      go_wp2_with fail
      go_region_held3 (fun w' => w'.cell? ⟨p, 3 + k * 2 + 1, none⟩ = some (.int .i64 sk) ∧ w'.cell? ⟨w.heap.size, k, none⟩ = some (.int .i64 kk)) (first | go_keep | exact HKP.out _ _ _ h2) (first | (go_at_call 52; go_must (refine (HL.out _).mono ?_; rintro e w1 ⟨rfl, n', rfl⟩)) | (go_at_call 51; go_must (rw [HW.out]; refine (HV.out _ (HD.out.drewN _)).mono ?_; rintro e w2 ⟨rfl, v2, h2⟩)))
      have H2 : Hid (Ch B p _ (put U k v2) (wr.drewN (1 + n')) w2) := h2
      have HF2 : Hid (Fr B p w w2) := (HF.out.drewN (1 + n')).trans h2.2
      have HC2 : Hid (w2.heap[w.heap.size]? = some (.cells (kcells K) 41 (0, 0))) := h2.2.keep (show (wr.drewN (1 + n')).heap[w.heap.size]? = _ from HC.out) (by decide) (by have := H.out.lt; omega)
      have HY : Hid (Calls Try.prog 53 #[.pointer (some ⟨p, 3 + k * 2, none⟩)] w2 fun e w' => e = .returned (.tuple #[]) ∧ Hid (Dk B w' p (crsTo S K (k + 1)) (put U k v2)) ∧ Hid (Fr B p w w') ∧ Hid (w'.heap[w.heap.size]? = some (.cells (kcells K) 41 (0, 0)))) := by
        refine (xsync B p _ (put U k v2) w2 h2.1 k hlt).mono ?_
        rintro e w3 ⟨rfl, h3⟩
        exact ⟨rfl, HNX.out _ _ _ h3.1, HF2.out.trans h3.2, h3.2.keep HC2.out (by decide) (by have := H.out.lt; omega)⟩
      clear h2 H2 HV HL HKP HI HW HNX HF2 HC2 hs hc hKk HD HF HC
      go_wp2_with fail
      refine HY.out.mono ?_
      rintro e w3 ⟨rfl, D3, F3, C3⟩
      go_wp2_with fail
      go_roundw
      case rel => exact ⟨k + 1, _, by omega, by go_num, D3, F3, C3⟩
      case measure => simp [intOf]; omega
    · obtain rfl : k = 4 := by omega
      clear hlt
      have hf1 := HD.out.froz 1
      have hc1 := HD.out.c1
      have hq := HD.out.setP false
      have hf2 : (wr.setCell ⟨p, 1, none⟩ (.bool true)).frozen? ⟨p, 2, none⟩ = false := hq.froz 2
      have hc2 : (wr.setCell ⟨p, 1, none⟩ (.bool true)).cell? ⟨p, 2, none⟩ = some (.int .i64 S.lim) := hq.c2
      have hr := hq.setL (-1)
      have HE : Hid (Dk B ((wr.setCell ⟨p, 1, none⟩ (.bool true)).setCell ⟨p, 2, none⟩ (.int .i64 (-1))) p (crs S K) U) := by
        refine ⟨hr.base, hr.blk, fun i hi => ?_, hr.apart⟩
        have := hr.own i hi
        simp only [crsTo, if_pos hi] at this
        exact this
      have HFE : Hid (Fr B p w ((wr.setCell ⟨p, 1, none⟩ (.bool true)).setCell ⟨p, 2, none⟩ (.int .i64 (-1)))) := (HF.out.trans (Fr.set HD.out.base _ _)).trans (Fr.set HD.out.base _ _)
      clear hq hr HD HF HC
      go_wp2
      go_end0
      exact ⟨rfl, U, HE.out, HFE.out⟩
end Go.Proofs.Yteiilifljfagdaa
