/- Walks of Days, of the program and of the reference. Conditions: the arguments are ints. -/
import Derived.Test.YtdkhpoepdimniabNd
import Derived.WalkKit
import Derived.ProofKit
import Derived.Handy
import Derived.WalkLawsBesides
import Derived.WalkSpells
import Derived.BigQuiet
import Derived.Deep.QuietTactic
import Derived.Deep.Light
import Derived.Deep.OwnRows
import Derived.Laws.AppendOwnNone
import Derived.Deep.RegionWith
import Derived.Lib.BitFns
import Derived.Lib.Walk
import Derived.Deep.CutBlock
import Derived.Deep.DeepCutAuto
import Derived.Deep.LoopGhost
import Derived.Deep.RegionHeld3
import Derived.Lib.SmallJoins
namespace Go.Proofs.Ytdkhpoepdimniab
open Go.RowKit
set_option linter.unusedVariables false
set_option linter.unusedSimpArgs false

/-- a block of two numbers -/
def Blk (w : World) (g : Nat) (T : TypeId) (x y : Int) : Prop := w.heap[g]? = some (.cells #[.int .i64 x, .int .i64 y] T (0, 0))
section
variable {w w' : World} {g : Nat} {T : TypeId} {x y : Int}
theorem Blk.lt (h : Blk w g T x y) : g < w.heap.size := (Array.getElem?_eq_some_iff.1 h).1
theorem Blk.c0 (h : Blk w g T x y) : w.cell? ⟨g, 0, none⟩ = some (.int .i64 x) := by unfold Blk at h; simp [World.cell?, h]
theorem Blk.c1 (h : Blk w g T x y) : w.cell? ⟨g, 1, none⟩ = some (.int .i64 y) := by unfold Blk at h; simp [World.cell?, h]
theorem Blk.fr (h : Blk w g T x y) (j : Nat) : w.frozen? ⟨g, j, none⟩ = false := by unfold Blk at h; simp [World.frozen?, h]
theorem Blk.below {B : Nat} (h : Blk w g T x y) (hb : Below B w w') (hg : g < B) : Blk w' g T x y := (hb.block g hg).trans h
theorem Blk.kept (h : Blk w g T x y) (hb : Below w.heap.size w w') : Blk w' g T x y := h.below hb h.lt
theorem Blk.alloc (h : Blk w g T x y) (o : Obj) : Blk (w.alloc o) g T x y := (Below.heap_alloc w o g h.lt).trans h
theorem Blk.new (w : World) (T : TypeId) (x y : Int) : Blk (w.alloc (.cells #[.int .i64 x, .int .i64 y] T)) w.heap.size T x y := heap_alloc_new w _
theorem Blk.put (h : Blk w g T x y) (x' y' : Int) : Blk ((w.setCell ⟨g, 0, none⟩ (.int .i64 x')).setCell ⟨g, 1, none⟩ (.int .i64 y')) g T x' y' := by
  have h1 := Go.Joins.block_setCell (i := 0) h (.int .i64 x')
  have h2 := Go.Joins.block_setCell (i := 1) h1 (.int .i64 y')
  simpa [Blk] using h2
theorem Blk.other (h : Blk w g T x y) (b j : Nat) (u : Value) (hb : b ≠ g) : Blk (w.setCell ⟨b, j, none⟩ u) g T x y := by
  unfold Blk at h ⊢
  rw [Below.heap_setCell _ _ _ _ (by exact fun e => hb e.symm)]
  exact h
end
/-- three blocks of the call's own: a meter as it was, the result's, the meter as it is -/
structure Three (w : World) (T : TypeId) (u r x y : Int) (wr : World) : Prop where
  a : Blk wr w.heap.size T u r
  b : Blk wr (w.heap.size + 1) T 0 0
  c : Blk wr (w.heap.size + 1 + 1) T x y
  bel : Below w.heap.size w wr
theorem Three.new (w : World) (T : TypeId) (u r : Int) : Three w T u r u r (((w.alloc (.cells #[.int .i64 u, .int .i64 r] T)).alloc (.cells #[.int .i64 0, .int .i64 0] T)).alloc (.cells #[.int .i64 u, .int .i64 r] T)) := by
  refine ⟨((Blk.new w T u r).alloc _).alloc _, ?_, ?_, (((Below.refl _ _).alloc (Nat.le_refl _) _).alloc (by simp) _).alloc (by simp; omega) _⟩
  · have := (Blk.new (w.alloc (.cells #[.int .i64 u, .int .i64 r] T)) T 0 0).alloc (.cells #[.int .i64 u, .int .i64 r] T)
    simpa using this
  · have := Blk.new ((w.alloc (.cells #[.int .i64 u, .int .i64 r] T)).alloc (.cells #[.int .i64 0, .int .i64 0] T)) T u r
    simpa using this
theorem Three.kept {w wr w' : World} {T : TypeId} {u r x y : Int} (h : Three w T u r x y wr) (hb : Below wr.heap.size wr w') : Three w T u r x y w' :=
  ⟨h.a.kept hb, h.b.kept hb, h.c.kept hb, h.bel.trans (hb.mono h.bel.size)⟩
theorem Three.put {w wr : World} {T : TypeId} {u r x y : Int} (h : Three w T u r x y wr) (x' y' : Int) :
    Three w T u r x' y' ((wr.setCell ⟨w.heap.size + 1 + 1, 0, none⟩ (.int .i64 x')).setCell ⟨w.heap.size + 1 + 1, 1, none⟩ (.int .i64 y')) :=
  ⟨(h.a.other _ _ _ (by omega)).other _ _ _ (by omega), (h.b.other _ _ _ (by omega)).other _ _ _ (by omega), h.c.put x' y', (h.bel.setCell (by show w.heap.size ≤ w.heap.size + 1 + 1; omega) _).setCell (by show w.heap.size ≤ w.heap.size + 1 + 1; omega) _⟩

def DaysPost (u r a t n : Int) (w : World) (e : Ending) (w' : World) : Prop :=
  e = .returned (.tuple #[.agg #[.int .i64 (daysA u r a t n).1, .int .i64 (daysA u r a t n).2.1], .int .i64 (daysA u r a t n).2.2]) ∧ Below w.heap.size w w'
theorem days_no {u r a t n : Int} (h : ¬ Spn n) : daysA u r a t n = (u, r, 1) := if_neg h
theorem days_yes {u r a t n : Int} (h : Spn n) : daysA u r a t n = daysG a t u r u r n.toNat := if_pos h
theorem daysG_next {a t u0 r0 u r : Int} {n : Nat} (h : dayE u r a t = 0) : daysG a t u0 r0 u r (n + 1) = daysG a t u0 r0 (dayU u r a t) (dayR u r a t) n := by rw [daysG, if_pos h]
theorem daysG_err {a t u0 r0 u r : Int} {n : Nat} (h : dayE u r a t ≠ 0) : daysG a t u0 r0 u r (n + 1) = (u0, r0, dayE u r a t) := by rw [daysG, if_neg h]
theorem dayE_or (u r a t : Int) : I64 (dayE u r a t) := by
  unfold dayE
  split
  · split <;> decide
  · decide
theorem days_post {u r a t n x y z : Int} {w w' : World} (h : daysA u r a t n = (x, y, z)) (hb : Below w.heap.size w w') : DaysPost u r a t n w (.returned (.tuple #[.agg #[.int .i64 x, .int .i64 y], .int .i64 z])) w' := by
  unfold DaysPost
  rw [h]
  exact ⟨rfl, hb⟩

set_option maxHeartbeats 4000000 in
set_option maxRecDepth 100000 in
theorem xdays (u r a t n : Int) (hu : I64 u) (hr : I64 r) (ha : I64 a) (ht : I64 t) (hn : I64 n) (w : World) : Calls Try.prog 11 #[.agg #[.int .i64 u, .int .i64 r], .int .i64 a, .int .i64 t, .int .i64 n] w (DaysPost u r a t n w) := by
  go_enter Try.func11, Try.ntmps11
  go_wp2_with fail
  refine (xgs n _).mono ?_
  rintro e w1 ⟨rfl, rfl⟩
  cases h1 : spnB n
  · have H : Hid _ := days_no (u := u) (r := r) (a := a) (t := t) (spnB_f h1)
    clear h1
    go_wp2
    go_returns
    exact days_post H.out (by go_grown)
  have A1 := spnB_t h1
  have H : Hid _ := days_yes (u := u) (r := r) (a := a) (t := t) A1
  clear h1
  obtain ⟨N, rfl⟩ : ∃ N : Nat, n = N := ⟨n.toNat, by omega⟩
  have HU : Hid (I64 u ∧ I64 r ∧ I64 a ∧ I64 t) := ⟨hu, hr, ha, ht⟩
  clear hu hr ha ht
  have HT0 : Hid (Three w 32 u r u r _) := Three.new w 32 u r
  go_wp2_with fail
  go_loopw [18] (fun i wr => ∃ (k : Nat) (x y : Int), i = .int .i64 k ∧ k ≤ N ∧ Hid (I64 x ∧ I64 y) ∧ Hid (daysG a t u r u r N = daysG a t u r x y (N - k)) ∧ Hid (Three w 32 u r x y wr)) (fun i _ => N - (intOf i).toNat)
  case atStart => exact ⟨0, u, r, rfl, by omega, ⟨HU.out.1, HU.out.2.1⟩, rfl, HT0⟩
  case round =>
    obtain ⟨k, x, y, rfl, hk, hxy, hg, hT⟩ := hrel
    have f0 := hT.out.c.c0
    have f1 := hT.out.c.c1
    by_cases hlt : k < N
    · have hlt' : (k : Int) < N := by omega
      go_wp2_with fail
      refine (xday x y a t hxy.out.1 hxy.out.2 HU.out.2.2.1 HU.out.2.2.2 _).mono ?_
      rintro e w1 ⟨rfl, hb1⟩
      have HT1 : Hid (Three w 32 u r x y w1) := hT.out.kept hb1
      have e0 := dayE_or x y a t
      have hne : Hid (I64 (dayU x y a t) ∧ I64 (dayR x y a t)) := ⟨dayU_I64 hxy.out.1, dayR_I64 hxy.out.2⟩
      have hst : dayE x y a t = 0 → Hid (daysG a t u r u r N = daysG a t u r (dayU x y a t) (dayR x y a t) (N - (k + 1))) := fun h => by
        show _ = _
        rw [hg.out, show N - k = (N - (k + 1)) + 1 by omega, daysG_next h]
      have hsn : dayE x y a t ≠ 0 → Hid (daysG a t u r u r N = (u, r, dayE x y a t)) := fun h => by
        show _ = _
        rw [hg.out, show N - k = (N - (k + 1)) + 1 by omega, daysG_err h]
      clear hb1 hT f0 f1 hg
      generalize dayU x y a t = x' at *
      generalize dayR x y a t = y' at *
      generalize dayE x y a t = z at *
      have f0 := HT1.out.c.c0
      have f1 := HT1.out.c.c1
      have g0 := HT1.out.c.fr 0
      have g1 := HT1.out.c.fr 1
      by_cases hz : z = 0
      · subst hz
        have HS := hst rfl
        clear hst hsn
        go_wp2_with fail
        exact ⟨⟨k + 1, x', y', by go_num, by omega, hne, HS, HT1.out.put x' y'⟩, by simp [intOf]; omega⟩
      · have HS := hsn hz
        have hz' : (z != 0) = true := by simp [hz]
        have HP : Hid (Three w 32 u r x' y' _) := HT1.out.put x' y'
        clear hst hsn
        go_upto_region 9 with fail
        clear HT1 f0 f1 g0 g1
        generalize ((w1.setCell ⟨w.heap.size + 1 + 1, 0, none⟩ (.int .i64 x')).setCell ⟨w.heap.size + 1 + 1, 1, none⟩ (.int .i64 y')) = w2 at *
        have f0 := HP.out.a.c0
        have f1 := HP.out.a.c1
        have f2 := HP.out.b.c0
        have f3 := HP.out.b.c1
        have g0 := HP.out.b.fr 0
        have g1 := HP.out.b.fr 1
        go_wp2_with fail
        try simp only [Exit.inBlock, Exit.then]
        refine bodyPost_ret (by simp [results, Try.results11, go_sem, f0, f1, f2, f3]; try rfl) rfl ?_
        exact days_post (H.out.trans HS.out) ((HP.out.bel.setCell (Nat.le_succ _) _).setCell (Nat.le_succ _) _)
    · obtain rfl : k = N := by omega
      have f2 := hT.out.b.c0
      have f3 := hT.out.b.c1
      have g0 := hT.out.b.fr 0
      have g1 := hT.out.b.fr 1
      have HS : Hid (daysG a t u r u r k = (x, y, 0)) := by
        show _ = _
        rw [hg.out, Nat.sub_self]
        rfl
      go_wp2_with fail
      refine bodyPost_ret (by simp [results, Try.results11, go_sem, f0, f1, f2, f3]; try rfl) rfl ?_
      exact days_post (H.out.trans HS.out) ((hT.out.bel.setCell (Nat.le_succ _) _).setCell (Nat.le_succ _) _)
end Go.Proofs.Ytdkhpoepdimniab
