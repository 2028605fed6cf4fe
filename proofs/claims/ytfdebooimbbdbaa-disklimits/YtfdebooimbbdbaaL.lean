/- The reference's Crash. -/
import Derived.Test.YtfdebooimbbdbaaI
import Derived.WalkKit
import Derived.ProofKit
import Derived.Handy
import Derived.WalkLawsBesides
import Derived.WalkSpells
import Derived.BigQuiet
import Derived.BigCall
import Derived.Deep.QuietTactic
import Derived.Deep.Light
import Derived.Deep.OwnRows
import Derived.Laws.AppendOwnNone
import Derived.Laws.Strings3
import Derived.Laws.RangeAny
import Derived.Deep.RegionWith
import Derived.Lib.BitFns
import Derived.Lib.Walk
import Derived.Lib.Strings
import Derived.Lib.OthersKept
import Derived.Deep.CutBlock
import Derived.Deep.DeepCutAuto
import Derived.Deep.LoopGhost
import Derived.Deep.RegionHeld3
import Derived.Lib.SmallJoins
import Derived.Maps.AppendAt
import Derived.Laws.IdiomStrings
import Derived.Lib.AppendZeros
namespace Go.Proofs.Ytfdebooimbbdbaa
open Go.RowKit
set_option linter.unusedVariables false
set_option linter.unusedSimpArgs false
/-- where the reference's crash stands: its three blocks -/
structure Rc (w wr : World) (S : St) (K : Nat → Int) (k : Nat) : Prop where
  a : wr.heap[w.heap.size]? = some (.cells (rcells (crsTo S K k)) 29 (0, 0))
  b : wr.heap[w.heap.size + 1]? = some (.cells (kcells K) 31 (0, 0))
  c : wr.heap[w.heap.size + 2]? = some (.cells (rcells { f := fun _ => ⟨#[]⟩, s := fun _ => 0, lim := 0, gone := false }) 29 (0, 0))
  d : Below w.heap.size w wr
theorem Rc.cell {w wr : World} {S : St} {K : Nat → Int} {k : Nat} (h : Rc w wr S K k) (hk : k < 4) :
    wr.cell? ⟨w.heap.size, k * 2, none⟩ = some (.string (S.f k)) ∧ wr.cell? ⟨w.heap.size, k * 2 + 1, none⟩ = some (.int .i64 (S.s k)) ∧ wr.cell? ⟨w.heap.size + 1, k, none⟩ = some (.int .i64 (K k)) := by
  rw [cell_of_row wr _ _ _ _ _ h.a, cell_of_row wr _ _ _ _ _ h.a, cell_of_row wr _ _ _ _ _ h.b]
  rcases four hk with rfl | rfl | rfl | rfl <;> exact ⟨rfl, rfl, rfl⟩
theorem froz_of_blk {w : World} {p T : Nat} {cs : Array Value} (h : w.heap[p]? = some (.cells cs T (0, 0))) (j : Nat) : w.frozen? ⟨p, j, none⟩ = false := by simp [World.frozen?, h]
theorem lt_of_blk {w : World} {p : Nat} {o : Obj} (h : w.heap[p]? = some o) : p < w.heap.size := (Array.getElem?_eq_some_iff.1 h).1
theorem bdrew {B : Nat} {a w : World} {n : Nat} (h : Below B a w) : Below B a (w.drewN n) := ⟨h.os, h.tape, h.output, h.size, h.block⟩
theorem lft_cases (n s : Nat) (k : Int) (h : s ≤ n) : (k < n - s ∧ k ≤ 0 ∧ lft n s k = s) ∨ (k < n - s ∧ 0 < k ∧ (lft n s k : Int) = s + k) ∨ (¬ k < n - s ∧ lft n s k = n) := by
  unfold lft
  omega
theorem Rc.next {w wr w2 : World} {S : St} {K : Nat → Int} {k : Nat} (h : Rc w wr S K k) (hk : k < 4) (ok : Ok S) (hb : Below wr.heap.size wr w2) (u : ByteArray) (n : Int) (hn : n = lft (S.f k).size (S.s k) (K k)) (hu : u = (S.f k).extract 0 n.toNat) :
    Rc w ((w2.setCell ⟨w.heap.size, k * 2, none⟩ (.string u)).setCell ⟨w.heap.size, k * 2 + 1, none⟩ (.int .i64 n)) S K (k + 1) := by
  have ha := (hb.block _ (lt_of_blk h.a)).trans h.a
  have hbb := (hb.block _ (lt_of_blk h.b)).trans h.b
  have hc := (hb.block _ (lt_of_blk h.c)).trans h.c
  have hl := lft_le (S.f k).size (S.s k) (K k) (ok.safe k)
  refine ⟨?_, ?_, ?_, ((h.d.trans (hb.mono h.d.size)).setCell (Nat.le_refl _) _).setCell (Nat.le_refl _) _⟩
  · rw [set_blk (set_blk ha _)]
    subst hu hn
    rcases four hk with rfl | rfl | rfl | rfl <;> simp [rcells, crsTo, crs]
  · rw [Below.heap_setCell _ _ _ _ (by show _ ≠ w.heap.size; omega), Below.heap_setCell _ _ _ _ (by show _ ≠ w.heap.size; omega)]; exact hbb
  · rw [Below.heap_setCell _ _ _ _ (by show _ ≠ w.heap.size; omega), Below.heap_setCell _ _ _ _ (by show _ ≠ w.heap.size; omega)]; exact hc
set_option maxHeartbeats 4000000 in
theorem rcrash (S : St) (ok : Ok S) (K : Nat → Int) (hK : ∀ j, -9223372036854775808 ≤ K j ∧ K j ≤ 9223372036854775807) (w : World) : Calls Try.prog 24 #[.agg (rcells S), .agg (kcells K)] w fun e w' => e = .returned (.agg (rcells (crs S K))) ∧ Below w.heap.size w w' := by
  have HO : Hid (Ok S) := ok
  have HK : Hid (∀ j, -9223372036854775808 ≤ K j ∧ K j ≤ 9223372036854775807) := hK
  have H0 : Hid (∀ A B C, A = rcells S → B = kcells K → C = rcells { f := fun _ => ⟨#[]⟩, s := fun _ => 0, lim := 0, gone := false } → Rc w (((w.alloc (.cells A 29)).alloc (.cells B 31)).alloc (.cells C 29)) S K 0) := by
    rintro A B C rfl rfl rfl
    refine ⟨?_, ?_, ?_, by go_grown⟩
    · rw [crsTo_zero, Below.heap_alloc _ _ _ (by simp; omega), Below.heap_alloc _ _ _ (by simp)]; exact heap_alloc_new w _
    · have h1 := heap_alloc_new (w.alloc (.cells (rcells S) 29)) (.cells (kcells K) 31)
      have e : (w.alloc (.cells (rcells S) 29)).heap.size = w.heap.size + 1 := by simp
      rw [e] at h1
      rw [Below.heap_alloc _ _ _ (by simp)]
      exact h1
    · have h1 := heap_alloc_new ((w.alloc (.cells (rcells S) 29)).alloc (.cells (kcells K) 31)) (.cells (rcells { f := fun _ => ⟨#[]⟩, s := fun _ => 0, lim := 0, gone := false }) 29)
      have e : ((w.alloc (.cells (rcells S) 29)).alloc (.cells (kcells K) 31)).heap.size = w.heap.size + 2 := by simp
      rw [e] at h1
      exact h1
  clear ok hK
  unfold rcells kcells
  go_enter Try.func24, Try.ntmps24
  go_wp2_with fail
  go_loopw [5] (fun i wr => ∃ k : Nat, k ≤ 4 ∧ i = .int .i64 k ∧ Hid (Rc w wr S K k)) (fun i _ => 4 - (intOf i).toNat)
  case atStart => exact ⟨0, by omega, rfl, H0.out _ _ _ rfl rfl rfl⟩
  case round =>
    clear H0
    obtain ⟨k, hk, rfl, HR⟩ := hrel
    by_cases hlt : k < 4
    · have hk4 : (k : Int) < 4 := by omega
      obtain ⟨c1, c2, c3⟩ := HR.out.cell hlt
      have hq := lt_of_blk HR.out.a
      have hq1 := lt_of_blk HR.out.b
      have hfz := froz_of_blk HR.out.a (k * 2)
      have hfz1 := froz_of_blk HR.out.a (k * 2 + 1)
      have hKk := HK.out k
      have hb1 : (S.s k : Int) ≤ (S.f k).size := by have := HO.out.safe k; omega
      have hb2 : ((S.f k).size : Int) ≤ 1048576 := by have := HO.out.small k; omega
      have HN : Hid (∀ (w2 : World), Below wr.heap.size wr w2 → ∀ (u : ByteArray) (n : Int), n = lft (S.f k).size (S.s k) (K k) → u = (S.f k).extract 0 n.toNat → Rc w ((w2.setCell ⟨w.heap.size, k * 2, none⟩ (.string u)).setCell ⟨w.heap.size, k * 2 + 1, none⟩ (.int .i64 n)) S K (k + 1)) := fun w2 hb u n h1 h2 => HR.out.next hlt HO.out hb u n h1 h2
      rcases lft_cases (S.f k).size (S.s k) (K k) (HO.out.safe k) with ⟨h1, h2, h3⟩ | ⟨h1, h2, h3⟩ | ⟨h1, h3⟩
      · have H3 : Hid (lft (S.f k).size (S.s k) (K k) = S.s k) := h3
        have h2' : ¬ 0 < K k := by omega
        clear h3
        go_wp2_with fail
        go_quiet (fail)
        go_wp2_with fail
        exact ⟨⟨k + 1, by omega, by go_num, HN.out _ (bdrew ((Below.refl _ _).alloc (Nat.le_refl _) _)) _ _ (by rw [H3.out]) (by simp)⟩, by simp [intOf]; omega⟩
      · have H3 : Hid ((lft (S.f k).size (S.s k) (K k) : Int) = S.s k + K k) := h3
        clear h3
        go_wp2_with fail
        go_quiet (fail)
        go_wp2_with fail
        go_quiet (fail)
        go_wp2_with fail
        exact ⟨⟨k + 1, by omega, by go_num, HN.out _ (bdrew ((Below.refl _ _).alloc (Nat.le_refl _) _)) _ _ (by rw [H3.out]) (by simp)⟩, by simp [intOf]; omega⟩
      · have H3 : Hid (lft (S.f k).size (S.s k) (K k) = (S.f k).size) := h3
        clear h3
        go_wp2_with fail
        go_quiet (fail)
        go_wp2_with fail
        exact ⟨⟨k + 1, by omega, by go_num, HN.out _ (bdrew ((Below.refl _ _).alloc (Nat.le_refl _) _)) _ _ (by rw [H3.out]) (by simp)⟩, by simp [intOf]; omega⟩
    · obtain rfl : k = 4 := by omega
      have ha := HR.out.a
      have hc := HR.out.c
      have hd : Hid (Below w.heap.size w wr) := HR.out.d
      have e0 : ∀ j, wr.cell? ⟨w.heap.size, j, none⟩ = (rcells (crsTo S K 4))[j]? := fun j => cell_of_row wr _ j _ 29 (0, 0) ha
      have e2 : ∀ j, wr.cell? ⟨w.heap.size + 2, j, none⟩ = (rcells { f := fun _ => ⟨#[]⟩, s := fun _ => 0, lim := 0, gone := false })[j]? := fun j => cell_of_row wr _ j _ 29 (0, 0) hc
      have f2 := froz_of_blk hc
      have a0 : wr.cell? ⟨w.heap.size, 0, none⟩ = some (.string ((crs S K).f 0)) := e0 0
      have a1 : wr.cell? ⟨w.heap.size, 1, none⟩ = some (.int .i64 ((crs S K).s 0)) := e0 1
      have a2 : wr.cell? ⟨w.heap.size, 2, none⟩ = some (.string ((crs S K).f 1)) := e0 2
      have a3 : wr.cell? ⟨w.heap.size, 3, none⟩ = some (.int .i64 ((crs S K).s 1)) := e0 3
      have a4 : wr.cell? ⟨w.heap.size, 4, none⟩ = some (.string ((crs S K).f 2)) := e0 4
      have a5 : wr.cell? ⟨w.heap.size, 5, none⟩ = some (.int .i64 ((crs S K).s 2)) := e0 5
      have a6 : wr.cell? ⟨w.heap.size, 6, none⟩ = some (.string ((crs S K).f 3)) := e0 6
      have a7 : wr.cell? ⟨w.heap.size, 7, none⟩ = some (.int .i64 ((crs S K).s 3)) := e0 7
      have z0 : wr.cell? ⟨w.heap.size + 1 + 1, 0, none⟩ = some (.string ⟨#[]⟩) := e2 0
      have y0 : wr.frozen? ⟨w.heap.size + 1 + 1, 0, none⟩ = false := f2 0
      have z1 : wr.cell? ⟨w.heap.size + 1 + 1, 1, none⟩ = some (.int .i64 0) := e2 1
      have y1 : wr.frozen? ⟨w.heap.size + 1 + 1, 1, none⟩ = false := f2 1
      have z2 : wr.cell? ⟨w.heap.size + 1 + 1, 2, none⟩ = some (.string ⟨#[]⟩) := e2 2
      have y2 : wr.frozen? ⟨w.heap.size + 1 + 1, 2, none⟩ = false := f2 2
      have z3 : wr.cell? ⟨w.heap.size + 1 + 1, 3, none⟩ = some (.int .i64 0) := e2 3
      have y3 : wr.frozen? ⟨w.heap.size + 1 + 1, 3, none⟩ = false := f2 3
      have z4 : wr.cell? ⟨w.heap.size + 1 + 1, 4, none⟩ = some (.string ⟨#[]⟩) := e2 4
      have y4 : wr.frozen? ⟨w.heap.size + 1 + 1, 4, none⟩ = false := f2 4
      have z5 : wr.cell? ⟨w.heap.size + 1 + 1, 5, none⟩ = some (.int .i64 0) := e2 5
      have y5 : wr.frozen? ⟨w.heap.size + 1 + 1, 5, none⟩ = false := f2 5
      have z6 : wr.cell? ⟨w.heap.size + 1 + 1, 6, none⟩ = some (.string ⟨#[]⟩) := e2 6
      have y6 : wr.frozen? ⟨w.heap.size + 1 + 1, 6, none⟩ = false := f2 6
      have z7 : wr.cell? ⟨w.heap.size + 1 + 1, 7, none⟩ = some (.int .i64 0) := e2 7
      have y7 : wr.frozen? ⟨w.heap.size + 1 + 1, 7, none⟩ = false := f2 7
      have z8 : wr.cell? ⟨w.heap.size + 1 + 1, 8, none⟩ = some (.int .i64 0) := e2 8
      have y8 : wr.frozen? ⟨w.heap.size + 1 + 1, 8, none⟩ = false := f2 8
      have z9 : wr.cell? ⟨w.heap.size + 1 + 1, 9, none⟩ = some (.bool false) := e2 9
      have y9 : wr.frozen? ⟨w.heap.size + 1 + 1, 9, none⟩ = false := f2 9
      clear f2
      clear e0 e2 ha hc HR HO HK
      go_wp2_with fail
      refine bodyPost_ret (by simp [results, Try.results24, go_sem, z0, z1, z2, z3, z4, z5, z6, z7, z8, z9]; try rfl) rfl ?_
      refine ⟨rfl, ?_⟩
      iterate 10 refine Below.setCell ?_ (by show w.heap.size ≤ w.heap.size + 1 + 1; omega) _
      exact hd.out
end Go.Proofs.Ytfdebooimbbdbaa
