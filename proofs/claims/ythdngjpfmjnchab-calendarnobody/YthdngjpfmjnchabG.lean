/- A list of numbers in memory; a calendar in memory; the walk of New. Condition: what the list holds are ints. -/
import Derived.Test.YthdngjpfmjnchabF
import Derived.Test.YthdngjpfmjnchabShelf
import Derived.WalkKit
import Derived.ProofKit
import Derived.Handy
import Derived.WalkLawsBesides
import Derived.WalkSpells
import Derived.BigQuiet
import Derived.Deep.QuietTactic
import Derived.Deep.Light
import Derived.Deep.OwnRows
import Derived.Laws.AppendOwnNone
import Derived.Deep.RegionWith
import Derived.Lib.BitFns
import Derived.Lib.Walk
import Derived.Deep.CutBlock
import Derived.Deep.DeepCutAuto
import Derived.Deep.LoopGhost
import Derived.Deep.RegionHeld3
import Derived.Lib.SlicesCompact
import Derived.Laws.CopyOwn
import Derived.Sort.OwnSortedInts
namespace Go.Proofs.Ythdngjpfmjnchab
open Go.RowKit
set_option linter.unusedVariables false
set_option linter.unusedSimpArgs false

/-- a slice value whose elements read as these ints -/
def Seg (w : World) (v : Value) (xs : List Int) : Prop :=
  ∃ a cap, v = .slice a xs.length cap ∧ (xs ≠ [] → ∃ b off, a = some ⟨b, off, none⟩ ∧ b < w.heap.size ∧ ∀ j, j < xs.length → w.cell? ⟨b, off + j, none⟩ = some (.int .i64 (xs.getD j 0)))
/-- all are ints; the length is one -/
def Ints (xs : List Int) : Prop := (∀ j, -9223372036854775808 ≤ xs.getD j 0 ∧ xs.getD j 0 ≤ 9223372036854775807) ∧ xs.length ≤ 9223372036854775807
theorem Seg.below {w w' : World} {v : Value} {xs : List Int} (h : Seg w v xs) (hb : Below w.heap.size w w') : Seg w' v xs := by
  obtain ⟨a, cap, rfl, h2⟩ := h
  refine ⟨a, cap, rfl, fun hx => ?_⟩
  obtain ⟨b, off, rfl, hlt, hc⟩ := h2 hx
  exact ⟨b, off, rfl, Nat.lt_of_lt_of_le hlt hb.size, fun j hj => (hb.cell (by exact hlt)).trans (hc j hj)⟩
theorem seg_nil (w : World) : Seg w (.slice none 0 0) [] := ⟨none, 0, rfl, fun h => absurd rfl h⟩

/-- block g holds these numbers, and nothing else -/
def Row (w : World) (g : Nat) (xs : List Int) : Prop := w.heap[g]? = some (.cells (xs.map (Value.int .i64)).toArray 3 (0, 0))
section
variable {w w' : World} {g : Nat} {xs : List Int}
theorem Row.lt (h : Row w g xs) : g < w.heap.size := (Array.getElem?_eq_some_iff.1 h).1
theorem Row.cell (h : Row w g xs) (j : Nat) (hj : j < xs.length) : w.cell? ⟨g, j, none⟩ = some (.int .i64 (xs.getD j 0)) := by
  unfold Row at h
  simp [World.cell?, h, hj]
theorem Row.frozen (h : Row w g xs) (j : Nat) : w.frozen? ⟨g, j, none⟩ = false := by
  unfold Row at h
  simp [World.frozen?, h]
theorem Row.below {B : Nat} (h : Row w g xs) (hb : Below B w w') (hg : g < B) : Row w' g xs := (hb.block g hg).trans h
theorem Row.new (w : World) (xs : List Int) : Row (w.alloc (.cells (xs.map (Value.int .i64)).toArray 3)) w.heap.size xs := heap_alloc_new w _
theorem Row.holds (h : Row w g xs) : Go.Sort.Holds (Value.int .i64) w g 0 xs.toArray := by
  intro j hj
  have hj' : j < xs.length := by simpa using hj
  rw [Nat.zero_add]
  refine ⟨?_, h.frozen j⟩
  rw [h.cell j hj', getElem!_pos xs.toArray j hj]
  simp [hj']
theorem Row.seg {ys : List Int} (h : Row w g (xs ++ ys)) (cap : Nat) : Seg w (.slice (some ⟨g, 0, none⟩) xs.length cap) xs :=
  ⟨_, cap, rfl, fun _ => ⟨g, 0, rfl, h.lt, fun j hj => by rw [Nat.zero_add, h.cell j (by simp; omega)]; simp [List.getElem?_append, hj]⟩⟩
end
theorem putCells_all (ts xs : List Int) (h : ts.length = xs.length) : Go.Sort.putCells (Value.int .i64) 0 ts.toArray (xs.map (Value.int .i64)).toArray = (ts.map (Value.int .i64)).toArray := by
  apply Array.ext
  · simp [Go.Sort.putCells, h]
  · intro i h1 h2
    have hi : i < ts.length := by simpa using h2
    simp [Go.Sort.putCells, hi]
theorem Row.sorted {w : World} {g : Nat} {xs ts : List Int} (h : Row w g xs) (hl : ts.length = xs.length) (n : Nat) (os : Array Obj) : Row (Go.Sort.grow (Go.Sort.putRow (Value.int .i64) (Go.Sort.ahead w n) g 0 ts.toArray) os) g ts := by
  unfold Row
  rw [heap_sortedI _ h, putCells_all ts xs hl]
theorem below_sorted {B : Nat} {w0 w : World} {g : Nat} (hb : Below B w0 w) (hg : B ≤ g) (hB : B ≤ w.heap.size) (ts : List Int) (n : Nat) (os : Array Obj) : Below B w0 (Go.Sort.grow (Go.Sort.putRow (Value.int .i64) (Go.Sort.ahead w n) g 0 ts.toArray) os) :=
  hb.grown (grownBy_sortedI _) hB (fun j hj => by cases hj; exact hg)

/-- a calendar, with these days off, in their order -/
structure Cal (w : World) (p : Nat) (ys : List Int) : Prop where
  lt : p < w.heap.size
  c0 : w.cell? ⟨p, 0, none⟩ = some (.bool true)
  c1 : ∃ v, w.cell? ⟨p, 1, none⟩ = some v ∧ Seg w v ys
  up : ys.Pairwise (· < ·)
  len : ys.length ≤ 256
  good : ∀ y ∈ ys, GoodD y
theorem Cal.below {w w' : World} {p : Nat} {ys : List Int} (h : Cal w p ys) (hb : Below w.heap.size w w') : Cal w' p ys := by
  obtain ⟨v, h1, h2⟩ := h.c1
  exact ⟨Nat.lt_of_lt_of_le h.lt hb.size, cell_kept hb h.c0, ⟨v, cell_kept hb h1, h2.below hb⟩, h.up, h.len, h.good⟩

def NewCal (xs : List Int) (w : World) (e : Ending) (w' : World) : Prop :=
  ∃ v f, e = .returned (.tuple #[v, .int .i64 f]) ∧ Below w.heap.size w w' ∧
    Hid ((256 < xs.length ∧ v = .pointer none ∧ f = 2) ∨ (xs.length ≤ 256 ∧ (¬ ∀ x ∈ xs, GoodD x) ∧ v = .pointer none ∧ f = 10) ∨
      (xs.length ≤ 256 ∧ (∀ x ∈ xs, GoodD x) ∧ f = 0 ∧ ∃ p, v = .pointer (some ⟨p, 0, none⟩) ∧ Cal w' p (srt xs)))

theorem made_zeros (n : Nat) : madeCells #[Value.int .i64 0] n = ((List.replicate n (0 : Int)).map (Value.int .i64)).toArray := by
  apply Array.ext
  · simp [madeCells]
  · intro i h1 h2
    simp [madeCells, Nat.mod_one]
theorem Try.info3 : (Try.prog.info? 3).map (fun i => (i.zero, i.size, i.bytes)) = some (some (.int .i64 0), 1, 8) := by kernel_rfl
theorem Try.infos3 : (Try.prog.info? 3).map (·.size) = some 1 := by kernel_rfl

theorem copied (w : World) (a : Option Addr) (cap : Nat) (xs : List Int) (hs : xs ≠ [] → ∃ b off, a = some ⟨b, off, none⟩ ∧ b < w.heap.size ∧ ∀ j, j < xs.length → w.cell? ⟨b, off + j, none⟩ = some (.int .i64 (xs.getD j 0))) :
    ∃ w2, (Builtin.copy_ #[40, 40] 3 #[.slice (some ⟨w.heap.size, 0, none⟩) xs.length xs.length, .slice a xs.length cap]).run Try.prog (w.alloc (.cells (madeCells #[Value.int .i64 0] xs.length) 3)) = .ok (goInt xs.length) w2 ∧ Row w2 w.heap.size xs ∧ Below w.heap.size w w2 := by
  have hb0 : Below w.heap.size w (w.alloc (.cells (madeCells #[Value.int .i64 0] xs.length) 3)) := (Below.refl _ w).alloc (Nat.le_refl _) _
  by_cases h0 : xs = []
  · subst h0
    refine ⟨_, run_copy_none _ 40 40 3 3 _ _ _ _ _ _ Try.underlying40 Try.infos3 rfl, ?_, hb0⟩
    unfold Row
    rw [heap_alloc_new, made_zeros]
    rfl
  · obtain ⟨b, off, rfl, hb, hc⟩ := hs h0
    have A1 : (w.alloc (.cells (madeCells #[Value.int .i64 0] xs.length) 3)).heap[w.heap.size]? = some (.cells (List.replicate xs.length (Value.int .i64 0)).toArray 3 (0, 0)) := by
      rw [heap_alloc_new, made_zeros, List.map_replicate]
    have hrun := run_copy_row (P := Try.prog) (w.alloc (.cells (madeCells #[Value.int .i64 0] xs.length) 3)) 40 40 3 3 w.heap.size 0 xs.length xs.length ⟨b, off, none⟩ xs.length cap _ 3 (xs.map (Value.int .i64)) Try.underlying40 Try.infos3 A1 (by simp [Nat.min_def])
      (fun j u hj => by
        have hj' : j < xs.length := by
          rcases Nat.lt_or_ge j xs.length with c | c
          · exact c
          · rw [List.getElem?_eq_none (by simpa using c)] at hj; cases hj
        have h1 := cell_kept hb0 (hc j hj')
        rw [List.getElem?_map, List.getElem?_eq_getElem hj'] at hj
        simp only [Option.map_some, Option.some.injEq] at hj
        rw [← hj, Go.WideShapes.add_plain, h1]
        simp [hj']) (by simp)
      (fun u hu => by
        obtain ⟨x, -, rfl⟩ := List.mem_map.1 hu
        rfl)
    rw [List.length_map] at hrun
    refine ⟨_, hrun, ?_, below_setRow hb0 (Nat.le_refl _) _⟩
    unfold Row
    simp only [World.setRow, Array.getElem?_modify, if_true, A1, Option.map_some]
    simp

set_option maxHeartbeats 2000000 in
theorem xnew (xs : List Int) (v : Value) (w : World) (hx : Ints xs) (hv : Seg w v xs) : Calls Try.prog 23 #[v] w (NewCal xs w) := by
  obtain ⟨a, cap, rfl, hs⟩ := hv
  by_cases h256 : 256 < xs.length
  · clear hs hx
    have hl : (256 : Int) < xs.length := by omega
    go_enter Try.func23, Try.ntmps23
    go_wp2
    go_ret2
    exact ⟨_, _, rfl, Below.refl _ _, .inl ⟨h256, rfl, rfl⟩⟩
  have hl : (xs.length : Int) ≤ 256 := by omega
  have hl2 : xs.length ≤ 256 := by omega
  have HS : Hid (xs ≠ [] → ∃ b off, a = some ⟨b, off, none⟩ ∧ b < w.heap.size ∧ ∀ j, j < xs.length → w.cell? ⟨b, off + j, none⟩ = some (.int .i64 (xs.getD j 0))) := hs
  have HX : Hid (Ints xs) := hx
  clear hs hx h256
  have hmk := run_make_row' (P := Try.prog) 40 3 (.int .i64 0) 8 Try.underlying40 Try.info3 rfl .i64 .i64 xs.length (by omega) (by omega)
  go_enter Try.func23, Try.ntmps23
  go_wp2_with fail
  go_loop [12] (fun i => ∃ k : Nat, k ≤ xs.length ∧ i = .int .i64 k ∧ Hid (∀ x ∈ xs.take k, GoodD x)) (fun i => xs.length - (intOf i).toNat)
  case atStart => exact ⟨0, by omega, rfl, by intro x hx; simp at hx⟩
  case round =>
    obtain ⟨k, hk, rfl, hgd⟩ := hrel
    by_cases hlt : k < xs.length
    · obtain ⟨b, off, rfl, hb, hc⟩ := HS.out (by intro e; subst e; simp at hlt)
      have hck := hc k hlt
      have hx1 := HX.out.1 k
      have HM : Hid (xs.getD k 0 ∈ xs ∧ xs.take (k + 1) = xs.take k ++ [xs.getD k 0]) := ⟨by simp [hlt], by rw [List.take_add_one]; simp [hlt]⟩
      have hlt' : (k : Int) < xs.length := by omega
      generalize xs.getD k 0 = x at hck hx1 HM
      clear hc hmk
      go_wp2_with fail
      refine (xgood x hx1 _).mono ?_
      rintro e w1 ⟨rfl, rfl⟩
      by_cases hg : GoodD x
      · rw [decide_eq_true hg]
        have HG : Hid (GoodD x) := hg
        clear hg
        go_wp2_with fail
        go_round
        case rel =>
          refine ⟨k + 1, by omega, by go_num, ?_⟩
          show ∀ y ∈ xs.take (k + 1), GoodD y
          rw [HM.out.2]
          intro y hy
          rcases List.mem_append.1 hy with h | h
          · exact hgd.out y h
          · rw [List.mem_singleton.1 h]; exact HG.out
        case measure => simp [intOf]; omega
      · rw [decide_eq_false hg]
        have HG : Hid (¬ GoodD x) := hg
        clear hg
        go_wp2_with fail
        go_ret2
        exact ⟨_, _, rfl, Below.refl _ _, .inr (.inl ⟨hl2, fun q => HG.out (q _ HM.out.1), rfl, rfl⟩)⟩
    · obtain rfl : k = xs.length := by omega
      clear hlt
      have HG : Hid (∀ x ∈ xs, GoodD x) := by have h := hgd.out; rw [List.take_length] at h; exact h
      clear hgd
      obtain ⟨w2, hcp, hr2, hb2⟩ := copied w a cap xs HS.out
      have HCP : Hid (Row w2 w.heap.size xs ∧ Below w.heap.size w w2) := ⟨hr2, hb2⟩
      clear hr2 hb2
      go_wp2_with fail
      have H2 : Hid (Row w2 w.heap.size xs) := HCP.out.1
      have HB2 : Hid (Below w.heap.size w w2) := HCP.out.2
      clear HCP hmk hcp
      refine (Try.slices_Sort_int w.heap.size 0 xs.length xs w2 H2.out.holds H2.out.lt (by omega)).mono ?_
      rintro e w3 ⟨rfl, nn, os, rfl⟩
      have hl3 : (xs.mergeSort fun x y => decide (x ≤ y)).length = xs.length := List.length_mergeSort xs
      have H3 : Hid _ := H2.out.sorted hl3 nn os
      have HB3 : Hid _ := below_sorted HB2.out (Nat.le_refl _) (by have := H2.out.lt; omega) (xs.mergeSort fun x y => decide (x ≤ y)) nn os
      generalize Go.Sort.grow (Go.Sort.putRow (Value.int .i64) (Go.Sort.ahead w2 nn) w.heap.size 0 (xs.mergeSort fun x y => decide (x ≤ y)).toArray) os = w3 at H3 HB3
      have HSr : Hid (srt xs = Lib.compact (xs.mergeSort fun x y => decide (x ≤ y))) := rfl
      generalize (xs.mergeSort fun x y => decide (x ≤ y)) = zs at hl3 H3 HB3 HSr
      go_wp2_with fail
      have hcm := Try.slices_Compact_int w.heap.size 0 xs.length zs w3 (Row.holds (show Row w3 w.heap.size zs from H3.out)) (by omega) (by omega)
      rw [hl3] at hcm
      have hcl : (Lib.compact zs).length ≤ xs.length := by rw [← HSr.out]; exact (srt_facts xs).2.2
      refine hcm.mono ?_
      rintro e w4 ⟨rfl, q, rfl⟩
      clear hcm
      have hl4 : (Lib.compact zs ++ List.replicate (xs.length - (Lib.compact zs).length) (0 : Int)).length = zs.length := by simp; omega
      have h4 := Row.sorted (show Row w3 w.heap.size zs from H3.out) hl4 q #[]
      have hb4 := below_sorted HB3.out (Nat.le_refl _) (by have := Row.lt (show Row w3 w.heap.size zs from H3.out); omega) (Lib.compact zs ++ List.replicate (xs.length - (Lib.compact zs).length) (0 : Int)) q #[]
      rw [Go.Sort.grow_empty] at h4 hb4
      generalize Go.Sort.putRow (Value.int .i64) (Go.Sort.ahead w3 q) w.heap.size 0 (Lib.compact zs ++ List.replicate (xs.length - (Lib.compact zs).length) (0 : Int)).toArray = w4 at h4 hb4
      have H4 : Hid (Seg w4 (.slice (some ⟨w.heap.size, 0, none⟩) (srt xs).length xs.length) (srt xs)) := by rw [← HSr.out] at h4; exact h4.seg xs.length
      have HB4 : Hid (Below w.heap.size w w4) := hb4
      rw [← HSr.out]
      clear h4 hb4 H2 HB2 H3 HB3 hl4 hcl hl3 HSr
      go_wp2_with fail
      go_ret2
      have hb5 : Below w4.heap.size w4 (w4.alloc (.cells #[.bool true, .slice (some ⟨w.heap.size, 0, none⟩) (srt xs).length xs.length] 42)) := (Below.refl _ _).alloc (Nat.le_refl _) _
      obtain ⟨s1, s2, s3⟩ := srt_facts xs
      refine ⟨_, _, rfl, HB4.out.trans (hb5.mono HB4.out.size), .inr (.inr ⟨hl2, HG.out, rfl, _, rfl, by simp, World.cell?_alloc_new w4 _ 42 0, ⟨_, World.cell?_alloc_new w4 _ 42 1, H4.out.below hb5⟩, s2, by omega, fun y hy => HG.out y ((s1 y).1 hy)⟩)⟩
end Go.Proofs.Ythdngjpfmjnchab
