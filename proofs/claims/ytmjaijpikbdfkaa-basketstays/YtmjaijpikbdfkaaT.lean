/- layer 14: which rules are within which, by the program: one region -/
import Derived.Test.YtmjaijpikbdfkaaS
import Derived.WalkKit
import Derived.ProofKit
import Derived.Handy
import Derived.WalkLawsBesides
import Derived.WalkSpells
import Derived.BigQuiet
import Derived.BigCall
import Derived.Deep.QuietTactic
import Derived.Deep.Light
import Derived.Deep.OwnRows
import Derived.Laws.AppendOwnNone
import Derived.Laws.Strings3
import Derived.Laws.RangeAny
import Derived.Deep.RegionWith
import Derived.Lib.BitFns
import Derived.Lib.Walk
import Derived.Lib.Strings
import Derived.Lib.OthersKept
import Derived.Deep.CutBlock
import Derived.Deep.DeepCutAuto
import Derived.Deep.LoopGhost
import Derived.Deep.RegionHeld3
import Derived.Lib.SmallJoins
import Derived.Maps.AppendAt
import Derived.Laws.IdiomStrings
import Derived.Lib.AppendZeros
import Derived.Deep.WholeRow
import Derived.Laws.BitsAllLaws
import Derived.Lib.ConvBytes
import Derived.Deep.RegionLaw
import Derived.Maps.OwnSet
import Derived.Maps.OwnOps
import Derived.Maps.RangeWalk
import Derived.Maps.Ext
import Derived.DeepKeys4
import Derived.Laws.StructEq
import Derived.Deep.MidRow
import Derived.Lib.Bytealg
import Derived.Lib.Overlaps
import Derived.Lib.AppendZerosOnto
import Derived.Laws.MakeOwn
import Derived.Deep.Upon
namespace Go.Proofs.Ytmjaijpikbdfkaa
open Go.RowKit
set_option linter.unusedVariables false
set_option linter.unusedSimpArgs false
set_option maxRecDepth 20000
theorem load25 (W : World) (b p : Nat) (v0 v1 v2 v3 v4 v5 v6 v7 v8 v9 : Value) (c0 : W.cell? ⟨b, p, none⟩ = some v0) (c1 : W.cell? ⟨b, p + 1, none⟩ = some v1) (c2 : W.cell? ⟨b, p + 2, none⟩ = some v2) (c3 : W.cell? ⟨b, p + 3, none⟩ = some v3) (c4 : W.cell? ⟨b, p + 4, none⟩ = some v4) (c5 : W.cell? ⟨b, p + 5, none⟩ = some v5) (c6 : W.cell? ⟨b, p + 6, none⟩ = some v6) (c7 : W.cell? ⟨b, p + 7, none⟩ = some v7) (c8 : W.cell? ⟨b, p + 8, none⟩ = some v8) (c9 : W.cell? ⟨b, p + 9, none⟩ = some v9) : (Instr.loadAt 25 (.pointer (some ⟨b, p, none⟩))).run Try.prog W = .ok (.agg #[v0, v1, v2, v3, v4, v5, v6, v7, v8, v9]) W := by
  go_simp
theorem loadB {W : World} {b : Nat} {v0 v1 v2 v3 v4 v5 v6 v7 v8 v9 : Value} (h : Bx W b #[v0, v1, v2, v3, v4, v5, v6, v7, v8, v9] 25) : (Instr.loadAt 25 (.pointer (some ⟨b, 0, none⟩))).run Try.prog W = .ok (.agg #[v0, v1, v2, v3, v4, v5, v6, v7, v8, v9]) W :=
  load25 W b 0 _ _ _ _ _ _ _ _ _ _ (h.cell 0) (h.cell 1) (h.cell 2) (h.cell 3) (h.cell 4) (h.cell 5) (h.cell 6) (h.cell 7) (h.cell 8) (h.cell 9)
set_option maxHeartbeats 16000000 in
theorem xwith0 (i0 i1 i3 i4 i5 i7 i8 j0 j1 j3 j4 j5 j7 j8 : Int) (s t : ByteArray) (ca ba cb bb : Option Addr) (nc cc bc nd cd bd : Nat) (ys ns : List Int) (w : World) (hI : Ins w.heap.size w ba ys) (hN : Ins w.heap.size w bb ns) (hly : ys.length ≤ 1000000) (hln : ns.length ≤ 1000000) (z : Bool) (hz : ns.all (fun n => ys.contains n) = z) (u v : Int) (hu : max i4 1 = u) (hv : max j4 1 = v) (c : Bool) (hc : (s.toList == t.toList) = c) (g : Bool) (hg : (c && (decide (i3 ≤ j3) && (decide (v ≤ u) && (decide (i5 ≤ j5) && z)))) = g) : Calls Try.prog 13 #[.agg #[.int .i64 i0, .int .i64 i1, .string s, .int .i64 i3, .int .i64 i4, .int .i64 i5, .slice ca nc cc, .int .i64 i7, .int .i64 i8, .slice ba ys.length bc], .agg #[.int .i64 j0, .int .i64 j1, .string t, .int .i64 j3, .int .i64 j4, .int .i64 j5, .slice cb nd cd, .int .i64 j7, .int .i64 j8, .slice bb ns.length bd]] w (KP (.bool g) w) := by
  have HG : Hid ((c && (decide (i3 ≤ j3) && (decide (v ≤ u) && (decide (i5 ≤ j5) && z)))) = g) := hg
  have HX : Hid (Bx ((w.alloc (.cells #[.int .i64 i0, .int .i64 i1, .string s, .int .i64 i3, .int .i64 i4, .int .i64 i5, .slice ca nc cc, .int .i64 i7, .int .i64 i8, .slice ba ys.length bc] 25)).alloc (.cells #[.int .i64 j0, .int .i64 j1, .string t, .int .i64 j3, .int .i64 j4, .int .i64 j5, .slice cb nd cd, .int .i64 j7, .int .i64 j8, .slice bb ns.length bd] 25)) w.heap.size #[.int .i64 i0, .int .i64 i1, .string s, .int .i64 i3, .int .i64 i4, .int .i64 i5, .slice ca nc cc, .int .i64 i7, .int .i64 i8, .slice ba ys.length bc] 25) := (Bx.new w _ _).kept (World.grownBy_alloc _ _ none) (by simp)
  have HY : Hid (Bx ((w.alloc (.cells #[.int .i64 i0, .int .i64 i1, .string s, .int .i64 i3, .int .i64 i4, .int .i64 i5, .slice ca nc cc, .int .i64 i7, .int .i64 i8, .slice ba ys.length bc] 25)).alloc (.cells #[.int .i64 j0, .int .i64 j1, .string t, .int .i64 j3, .int .i64 j4, .int .i64 j5, .slice cb nd cd, .int .i64 j7, .int .i64 j8, .slice bb ns.length bd] 25)) (w.heap.size + 1) #[.int .i64 j0, .int .i64 j1, .string t, .int .i64 j3, .int .i64 j4, .int .i64 j5, .slice cb nd cd, .int .i64 j7, .int .i64 j8, .slice bb ns.length bd] 25) := by
    have := Bx.new (w.alloc (.cells #[.int .i64 i0, .int .i64 i1, .string s, .int .i64 i3, .int .i64 i4, .int .i64 i5, .slice ca nc cc, .int .i64 i7, .int .i64 i8, .slice ba ys.length bc] 25)) #[.int .i64 j0, .int .i64 j1, .string t, .int .i64 j3, .int .i64 j4, .int .i64 j5, .slice cb nd cd, .int .i64 j7, .int .i64 j8, .slice bb ns.length bd] 25
    rw [World.size_alloc] at this
    exact this
  have HB : Hid (Below w.heap.size w ((w.alloc (.cells #[.int .i64 i0, .int .i64 i1, .string s, .int .i64 i3, .int .i64 i4, .int .i64 i5, .slice ca nc cc, .int .i64 i7, .int .i64 i8, .slice ba ys.length bc] 25)).alloc (.cells #[.int .i64 j0, .int .i64 j1, .string t, .int .i64 j3, .int .i64 j4, .int .i64 j5, .slice cb nd cd, .int .i64 j7, .int .i64 j8, .slice bb ns.length bd] 25))) := ((Below.refl _ w).alloc (Nat.le_refl _) _).alloc (by simp) _
  have H1 : Hid (∀ W, Calls Try.prog 37 #[.agg #[.int .i64 i0, .int .i64 i1, .string s, .int .i64 i3, .int .i64 i4, .int .i64 i5, .slice ca nc cc, .int .i64 i7, .int .i64 i8, .slice ba ys.length bc]] W (KP (.int .i64 u) W)) := by
    intro W
    have h := xleast ⟨⟨i0, i1, s.data.toList, i3, i4, i5, List.replicate nc ⟨0, 0, 0⟩, i7, i8, ys⟩, ca, cc, ba, bc⟩ W
    rw [← hu]
    simpa [bcs] using h
  have H2 : Hid (∀ W, Calls Try.prog 37 #[.agg #[.int .i64 j0, .int .i64 j1, .string t, .int .i64 j3, .int .i64 j4, .int .i64 j5, .slice cb nd cd, .int .i64 j7, .int .i64 j8, .slice bb ns.length bd]] W (KP (.int .i64 v) W)) := by
    intro W
    have h := xleast ⟨⟨j0, j1, t.data.toList, j3, j4, j5, List.replicate nd ⟨0, 0, 0⟩, j7, j8, ns⟩, cb, cd, bb, bd⟩ W
    rw [← hv]
    simpa [bcs] using h
  have H3 : Hid (∀ W, Below w.heap.size w W → Calls Try.prog 39 #[.agg #[.int .i64 i0, .int .i64 i1, .string s, .int .i64 i3, .int .i64 i4, .int .i64 i5, .slice ca nc cc, .int .i64 i7, .int .i64 i8, .slice ba ys.length bc], .slice bb ns.length bd] W (KP (.bool z) W)) := fun W hW => xbars0 i0 i1 i3 i4 i5 i7 i8 s ca ba bb nc cc bc bd ys ns W ((hI.keep hW).mono hW.size) ((hN.keep hW).mono hW.size) hly hln z hz
  clear hg hI hN hz hu hv
  generalize ys.length = nb at *
  generalize ns.length = nn at *
  go_enter Try.func13, Try.ntmps13
  go_wp2_with fail
  generalize ((w.alloc (.cells #[.int .i64 i0, .int .i64 i1, .string s, .int .i64 i3, .int .i64 i4, .int .i64 i5, .slice ca nc cc, .int .i64 i7, .int .i64 i8, .slice ba nb bc] 25)).alloc (.cells #[.int .i64 j0, .int .i64 j1, .string t, .int .i64 j3, .int .i64 j4, .int .i64 j5, .slice cb nd cd, .int .i64 j7, .int .i64 j8, .slice bb nn bd] 25)) = w0 at *
  have c2 : w0.cell? ⟨w.heap.size, 2, none⟩ = some (.string s) := HX.out.cell 2
  have d2 : w0.cell? ⟨w.heap.size + 1, 2, none⟩ = some (.string t) := HY.out.cell 2
  have c3 : w0.cell? ⟨w.heap.size, 3, none⟩ = some (.int .i64 i3) := HX.out.cell 3
  have d3 : w0.cell? ⟨w.heap.size + 1, 3, none⟩ = some (.int .i64 j3) := HY.out.cell 3
  have c4 : w0.cell? ⟨w.heap.size, 4, none⟩ = some (.int .i64 i4) := HX.out.cell 4
  have d4 : w0.cell? ⟨w.heap.size + 1, 4, none⟩ = some (.int .i64 j4) := HY.out.cell 4
  have c5 : w0.cell? ⟨w.heap.size, 5, none⟩ = some (.int .i64 i5) := HX.out.cell 5
  have d5 : w0.cell? ⟨w.heap.size + 1, 5, none⟩ = some (.int .i64 j5) := HY.out.cell 5
  cases c with
  | false =>
    have HG2 : Hid (false = g) := HG.out
    clear HG
    go_quiet (fail)
    go_wp2_with fail
    go_ret
    exact KP.mk (congrArg Value.bool HG2.out) (bdrew HB.out _)
  | true =>
    by_cases k3 : i3 ≤ j3
    · have HG2 : Hid ((decide (v ≤ u) && (decide (i5 ≤ j5) && z)) = g) := by have := HG.out; rw [decide_eq_true k3] at this; exact this
      have hl1 : w.heap.size < w0.heap.size := HX.out.lt
      have hl2 : w.heap.size + 1 < w0.heap.size := HY.out.lt
      have hX := HX.out
      have hY := HY.out
      clear HG HX HY
      by_cases k4 : v ≤ u
      · by_cases k5 : i5 ≤ j5
        · have HG3 : Hid (z = g) := by have := HG2.out; rw [decide_eq_true k4, decide_eq_true k5] at this; exact this
          clear HG2
          have hS0 : Below w0.heap.size w0 w0.drew := (Below.refl _ w0).drew
          refine wp_region_held (S := fun W => Below w0.heap.size w0 W) (by kernel_rfl) ?_
          change wpAnyH _ _ _ _ _ 33 #[false, false, false, false, false, false, false, false, false, false, false, false, false, false, false, false, false, false, false, false, false, false, false, false, false, false, false, false, false, false, false, false, false] _ w0.drew
          obtain ⟨v0, hv0⟩ : ∃ v, v = w0.drew := ⟨_, rfl⟩
          rw [← hv0] at hS0 ⊢
          clear hv0
          refine takeR (fuel := 32) (i := 0) (v := .pointer (some ⟨w.heap.size, 2, none⟩)) rfl (by kernel_rfl) (by kernel_rfl) (by kernel_rfl) (fun _ _ _ h => h) (Or.inl ⟨rfl, fun W hW => by go_simp⟩) hS0 ?_
          simp only [Act.put, List.setIfInBounds_toArray, List.set_cons_zero, List.set_cons_succ]
          refine takeR (fuel := 31) (i := 1) (v := .string s) rfl (by kernel_rfl) (by kernel_rfl) (by kernel_rfl) (fun _ _ _ h => h) (Or.inl ⟨rfl, fun W hW => by have cj : W.cell? ⟨w.heap.size, 2, none⟩ = some (.string s) := (hX.keep hW).cell 2; go_simp⟩) hS0 ?_
          simp only [Act.put, List.setIfInBounds_toArray, List.set_cons_zero, List.set_cons_succ]
          refine takeR (fuel := 30) (i := 2) (v := .pointer (some ⟨w.heap.size + 1, 2, none⟩)) rfl (by kernel_rfl) (by kernel_rfl) (by kernel_rfl) (fun _ _ _ h => h) (Or.inl ⟨rfl, fun W hW => by go_simp⟩) hS0 ?_
          simp only [Act.put, List.setIfInBounds_toArray, List.set_cons_zero, List.set_cons_succ]
          refine takeR (fuel := 29) (i := 3) (v := .string t) rfl (by kernel_rfl) (by kernel_rfl) (by kernel_rfl) (fun _ _ _ h => h) (Or.inl ⟨rfl, fun W hW => by have cj : W.cell? ⟨w.heap.size + 1, 2, none⟩ = some (.string t) := (hY.keep hW).cell 2; go_simp⟩) hS0 ?_
          simp only [Act.put, List.setIfInBounds_toArray, List.set_cons_zero, List.set_cons_succ]
          refine takeR (fuel := 28) (i := 4) (v := .bool true) rfl (by kernel_rfl) (by kernel_rfl) (by kernel_rfl) (fun _ _ _ h => h) (Or.inl ⟨rfl, fun W hW => by go_simp⟩) hS0 ?_
          simp only [Act.put, List.setIfInBounds_toArray, List.set_cons_zero, List.set_cons_succ]
          refine takeR (fuel := 27) (i := 5) (v := .bool true) rfl (by kernel_rfl) (by kernel_rfl) (by kernel_rfl) (fun _ _ _ h => h) (Or.inl ⟨rfl, fun W hW => by go_simp⟩) hS0 ?_
          simp only [Act.put, List.setIfInBounds_toArray, List.set_cons_zero, List.set_cons_succ]
          refine takeR (fuel := 26) (i := 6) (v := .pointer (some ⟨w.heap.size, 3, none⟩)) rfl (by kernel_rfl) (by kernel_rfl) (by kernel_rfl) (fun _ _ _ h => h) (Or.inl ⟨rfl, fun W hW => by go_simp⟩) hS0 ?_
          simp only [Act.put, List.setIfInBounds_toArray, List.set_cons_zero, List.set_cons_succ]
          refine takeR (fuel := 25) (i := 7) (v := .int .i64 i3) rfl (by kernel_rfl) (by kernel_rfl) (by kernel_rfl) (fun _ _ _ h => h) (Or.inl ⟨rfl, fun W hW => by have cj : W.cell? ⟨w.heap.size, 3, none⟩ = some (.int .i64 i3) := (hX.keep hW).cell 3; go_simp⟩) hS0 ?_
          simp only [Act.put, List.setIfInBounds_toArray, List.set_cons_zero, List.set_cons_succ]
          refine takeR (fuel := 24) (i := 8) (v := .pointer (some ⟨w.heap.size + 1, 3, none⟩)) rfl (by kernel_rfl) (by kernel_rfl) (by kernel_rfl) (fun _ _ _ h => h) (Or.inl ⟨rfl, fun W hW => by go_simp⟩) hS0 ?_
          simp only [Act.put, List.setIfInBounds_toArray, List.set_cons_zero, List.set_cons_succ]
          refine takeR (fuel := 23) (i := 9) (v := .int .i64 j3) rfl (by kernel_rfl) (by kernel_rfl) (by kernel_rfl) (fun _ _ _ h => h) (Or.inl ⟨rfl, fun W hW => by have cj : W.cell? ⟨w.heap.size + 1, 3, none⟩ = some (.int .i64 j3) := (hY.keep hW).cell 3; go_simp⟩) hS0 ?_
          simp only [Act.put, List.setIfInBounds_toArray, List.set_cons_zero, List.set_cons_succ]
          refine takeR (fuel := 22) (i := 10) (v := .bool true) rfl (by kernel_rfl) (by kernel_rfl) (by kernel_rfl) (fun _ _ _ h => h) (Or.inl ⟨rfl, fun W hW => by go_simp⟩) hS0 ?_
          simp only [Act.put, List.setIfInBounds_toArray, List.set_cons_zero, List.set_cons_succ]
          refine takeR (fuel := 21) (i := 11) (v := .bool true) rfl (by kernel_rfl) (by kernel_rfl) (by kernel_rfl) (fun _ _ _ h => h) (Or.inl ⟨rfl, fun W hW => by go_simp⟩) hS0 ?_
          simp only [Act.put, List.setIfInBounds_toArray, List.set_cons_zero, List.set_cons_succ]
          refine takeR (fuel := 20) (i := 12) (v := .bool true) rfl (by kernel_rfl) (by kernel_rfl) (by kernel_rfl) (fun _ _ _ h => h) (Or.inl ⟨rfl, fun W hW => by go_simp⟩) hS0 ?_
          simp only [Act.put, List.setIfInBounds_toArray, List.set_cons_zero, List.set_cons_succ]
          refine takeR (fuel := 19) (i := 13) (v := .agg #[.int .i64 i0, .int .i64 i1, .string s, .int .i64 i3, .int .i64 i4, .int .i64 i5, .slice ca nc cc, .int .i64 i7, .int .i64 i8, .slice ba nb bc]) rfl (by kernel_rfl) (by kernel_rfl) (by kernel_rfl) (fun _ _ _ h => h) (Or.inl ⟨rfl, fun W hW => exl _ _ 25 _ rfl (.pointer (some ⟨w.heap.size, 0, none⟩)) _ rfl (loadB (hX.keep hW))⟩) hS0 ?_
          simp only [Act.put, List.setIfInBounds_toArray, List.set_cons_zero, List.set_cons_succ]
          refine takeR (fuel := 18) (i := 15) (v := .agg #[.int .i64 j0, .int .i64 j1, .string t, .int .i64 j3, .int .i64 j4, .int .i64 j5, .slice cb nd cd, .int .i64 j7, .int .i64 j8, .slice bb nn bd]) rfl (by kernel_rfl) (by kernel_rfl) (by kernel_rfl) (fun _ _ _ h => h) (Or.inl ⟨rfl, fun W hW => exl _ _ 25 _ rfl (.pointer (some ⟨w.heap.size + 1, 0, none⟩)) _ rfl (loadB (hY.keep hW))⟩) hS0 ?_
          simp only [Act.put, List.setIfInBounds_toArray, List.set_cons_zero, List.set_cons_succ]
          refine consR (fuel := 17) (i := 14) rfl (by kernel_rfl) (fun K hK => ?_)
          rw [if_pos (by rfl)]
          go_simp
          refine (H1.out _).mono ?_
          rintro e hb1w ⟨rfl, hb1⟩
          refine hK.out _ _ (hS0.trans (hb1.out.mono hS0.size)) (fun hS1 => ?_)
          clear hK
          try simp only [Act.put, List.setIfInBounds_toArray, List.set_cons_zero, List.set_cons_succ]
          refine consR (fuel := 16) (i := 16) rfl (by kernel_rfl) (fun K hK => ?_)
          rw [if_pos (by rfl)]
          go_simp
          refine (H2.out _).mono ?_
          rintro e hb2w ⟨rfl, hb2⟩
          refine hK.out _ _ (hS1.trans (hb2.out.mono hS1.size)) (fun hS2 => ?_)
          clear hK
          try simp only [Act.put, List.setIfInBounds_toArray, List.set_cons_zero, List.set_cons_succ]
          refine takeR (fuel := 15) (i := 17) (v := .bool true) rfl (by kernel_rfl) (by kernel_rfl) (by kernel_rfl) (fun _ _ _ h => h) (Or.inl ⟨rfl, fun W hW => by go_simp⟩) hS2 ?_
          simp only [Act.put, List.setIfInBounds_toArray, List.set_cons_zero, List.set_cons_succ]
          refine takeR (fuel := 14) (i := 18) (v := .bool true) rfl (by kernel_rfl) (by kernel_rfl) (by kernel_rfl) (fun _ _ _ h => h) (Or.inl ⟨rfl, fun W hW => by go_simp⟩) hS2 ?_
          simp only [Act.put, List.setIfInBounds_toArray, List.set_cons_zero, List.set_cons_succ]
          refine takeR (fuel := 13) (i := 19) (v := .bool true) rfl (by kernel_rfl) (by kernel_rfl) (by kernel_rfl) (fun _ _ _ h => h) (Or.inl ⟨rfl, fun W hW => by go_simp⟩) hS2 ?_
          simp only [Act.put, List.setIfInBounds_toArray, List.set_cons_zero, List.set_cons_succ]
          refine takeR (fuel := 12) (i := 20) (v := .pointer (some ⟨w.heap.size, 5, none⟩)) rfl (by kernel_rfl) (by kernel_rfl) (by kernel_rfl) (fun _ _ _ h => h) (Or.inl ⟨rfl, fun W hW => by go_simp⟩) hS2 ?_
          simp only [Act.put, List.setIfInBounds_toArray, List.set_cons_zero, List.set_cons_succ]
          refine takeR (fuel := 11) (i := 21) (v := .int .i64 i5) rfl (by kernel_rfl) (by kernel_rfl) (by kernel_rfl) (fun _ _ _ h => h) (Or.inl ⟨rfl, fun W hW => by have cj : W.cell? ⟨w.heap.size, 5, none⟩ = some (.int .i64 i5) := (hX.keep hW).cell 5; go_simp⟩) hS2 ?_
          simp only [Act.put, List.setIfInBounds_toArray, List.set_cons_zero, List.set_cons_succ]
          refine takeR (fuel := 10) (i := 22) (v := .pointer (some ⟨w.heap.size + 1, 5, none⟩)) rfl (by kernel_rfl) (by kernel_rfl) (by kernel_rfl) (fun _ _ _ h => h) (Or.inl ⟨rfl, fun W hW => by go_simp⟩) hS2 ?_
          simp only [Act.put, List.setIfInBounds_toArray, List.set_cons_zero, List.set_cons_succ]
          refine takeR (fuel := 9) (i := 23) (v := .int .i64 j5) rfl (by kernel_rfl) (by kernel_rfl) (by kernel_rfl) (fun _ _ _ h => h) (Or.inl ⟨rfl, fun W hW => by have cj : W.cell? ⟨w.heap.size + 1, 5, none⟩ = some (.int .i64 j5) := (hY.keep hW).cell 5; go_simp⟩) hS2 ?_
          simp only [Act.put, List.setIfInBounds_toArray, List.set_cons_zero, List.set_cons_succ]
          refine takeR (fuel := 8) (i := 24) (v := .bool true) rfl (by kernel_rfl) (by kernel_rfl) (by kernel_rfl) (fun _ _ _ h => h) (Or.inl ⟨rfl, fun W hW => by go_simp⟩) hS2 ?_
          simp only [Act.put, List.setIfInBounds_toArray, List.set_cons_zero, List.set_cons_succ]
          refine takeR (fuel := 7) (i := 25) (v := .bool true) rfl (by kernel_rfl) (by kernel_rfl) (by kernel_rfl) (fun _ _ _ h => h) (Or.inl ⟨rfl, fun W hW => by go_simp⟩) hS2 ?_
          simp only [Act.put, List.setIfInBounds_toArray, List.set_cons_zero, List.set_cons_succ]
          refine takeR (fuel := 6) (i := 26) (v := .bool true) rfl (by kernel_rfl) (by kernel_rfl) (by kernel_rfl) (fun _ _ _ h => h) (Or.inl ⟨rfl, fun W hW => by go_simp⟩) hS2 ?_
          simp only [Act.put, List.setIfInBounds_toArray, List.set_cons_zero, List.set_cons_succ]
          refine takeR (fuel := 5) (i := 27) (v := .agg #[.int .i64 i0, .int .i64 i1, .string s, .int .i64 i3, .int .i64 i4, .int .i64 i5, .slice ca nc cc, .int .i64 i7, .int .i64 i8, .slice ba nb bc]) rfl (by kernel_rfl) (by kernel_rfl) (by kernel_rfl) (fun _ _ _ h => h) (Or.inl ⟨rfl, fun W hW => exl _ _ 25 _ rfl (.pointer (some ⟨w.heap.size, 0, none⟩)) _ rfl (loadB (hX.keep hW))⟩) hS2 ?_
          simp only [Act.put, List.setIfInBounds_toArray, List.set_cons_zero, List.set_cons_succ]
          refine takeR (fuel := 4) (i := 28) (v := .pointer (some ⟨w.heap.size + 1, 9, none⟩)) rfl (by kernel_rfl) (by kernel_rfl) (by kernel_rfl) (fun _ _ _ h => h) (Or.inl ⟨rfl, fun W hW => by go_simp⟩) hS2 ?_
          simp only [Act.put, List.setIfInBounds_toArray, List.set_cons_zero, List.set_cons_succ]
          refine takeR (fuel := 3) (i := 29) (v := .slice bb nn bd) rfl (by kernel_rfl) (by kernel_rfl) (by kernel_rfl) (fun _ _ _ h => h) (Or.inl ⟨rfl, fun W hW => by have cj : W.cell? ⟨w.heap.size + 1, 9, none⟩ = some (.slice bb nn bd) := (hY.keep hW).cell 9; go_simp⟩) hS2 ?_
          simp only [Act.put, List.setIfInBounds_toArray, List.set_cons_zero, List.set_cons_succ]
          refine consR (fuel := 2) (i := 30) rfl (by kernel_rfl) (fun K hK => ?_)
          rw [if_pos (by rfl)]
          go_simp
          refine (H3.out _ (HB.out.trans (hS2.mono HB.out.size))).mono ?_
          rintro e hb3w ⟨rfl, hb3⟩
          refine hK.out _ _ (hS2.trans (hb3.out.mono hS2.size)) (fun hS3 => ?_)
          clear hK
          try simp only [Act.put, List.setIfInBounds_toArray, List.set_cons_zero, List.set_cons_succ]
          refine takeR (fuel := 1) (i := 31) (v := .bool z) rfl (by kernel_rfl) (by kernel_rfl) (by kernel_rfl) (fun _ _ _ h => h) (Or.inl ⟨rfl, fun W hW => by go_simp⟩) hS3 ?_
          simp only [Act.put, List.setIfInBounds_toArray, List.set_cons_zero, List.set_cons_succ]
          refine takeR (fuel := 0) (i := 32) (v := .bool z) rfl (by kernel_rfl) (by kernel_rfl) (by kernel_rfl) (fun _ _ _ h => h) (Or.inl ⟨rfl, fun W hW => by go_simp⟩) hS3 ?_
          simp only [Act.put, List.setIfInBounds_toArray, List.set_cons_zero, List.set_cons_succ]
          refine wpAnyH_done (by kernel_rfl) ?_ _
          go_wp2_with fail
          go_ret
          exact KP.mk (congrArg Value.bool HG3.out) (HB.out.trans (hS3.mono HB.out.size))
        · have HG3 : Hid (false = g) := by have := HG2.out; rw [decide_eq_true k4, decide_eq_false k5] at this; exact this
          clear HG2
          have hS0 : Below w0.heap.size w0 w0.drew := (Below.refl _ w0).drew
          refine wp_region_held (S := fun W => Below w0.heap.size w0 W) (by kernel_rfl) ?_
          change wpAnyH _ _ _ _ _ 33 #[false, false, false, false, false, false, false, false, false, false, false, false, false, false, false, false, false, false, false, false, false, false, false, false, false, false, false, false, false, false, false, false, false] _ w0.drew
          obtain ⟨v0, hv0⟩ : ∃ v, v = w0.drew := ⟨_, rfl⟩
          rw [← hv0] at hS0 ⊢
          clear hv0
          refine takeR (fuel := 32) (i := 0) (v := .pointer (some ⟨w.heap.size, 2, none⟩)) rfl (by kernel_rfl) (by kernel_rfl) (by kernel_rfl) (fun _ _ _ h => h) (Or.inl ⟨rfl, fun W hW => by go_simp⟩) hS0 ?_
          simp only [Act.put, List.setIfInBounds_toArray, List.set_cons_zero, List.set_cons_succ]
          refine takeR (fuel := 31) (i := 1) (v := .string s) rfl (by kernel_rfl) (by kernel_rfl) (by kernel_rfl) (fun _ _ _ h => h) (Or.inl ⟨rfl, fun W hW => by have cj : W.cell? ⟨w.heap.size, 2, none⟩ = some (.string s) := (hX.keep hW).cell 2; go_simp⟩) hS0 ?_
          simp only [Act.put, List.setIfInBounds_toArray, List.set_cons_zero, List.set_cons_succ]
          refine takeR (fuel := 30) (i := 2) (v := .pointer (some ⟨w.heap.size + 1, 2, none⟩)) rfl (by kernel_rfl) (by kernel_rfl) (by kernel_rfl) (fun _ _ _ h => h) (Or.inl ⟨rfl, fun W hW => by go_simp⟩) hS0 ?_
          simp only [Act.put, List.setIfInBounds_toArray, List.set_cons_zero, List.set_cons_succ]
          refine takeR (fuel := 29) (i := 3) (v := .string t) rfl (by kernel_rfl) (by kernel_rfl) (by kernel_rfl) (fun _ _ _ h => h) (Or.inl ⟨rfl, fun W hW => by have cj : W.cell? ⟨w.heap.size + 1, 2, none⟩ = some (.string t) := (hY.keep hW).cell 2; go_simp⟩) hS0 ?_
          simp only [Act.put, List.setIfInBounds_toArray, List.set_cons_zero, List.set_cons_succ]
          refine takeR (fuel := 28) (i := 4) (v := .bool true) rfl (by kernel_rfl) (by kernel_rfl) (by kernel_rfl) (fun _ _ _ h => h) (Or.inl ⟨rfl, fun W hW => by go_simp⟩) hS0 ?_
          simp only [Act.put, List.setIfInBounds_toArray, List.set_cons_zero, List.set_cons_succ]
          refine takeR (fuel := 27) (i := 5) (v := .bool true) rfl (by kernel_rfl) (by kernel_rfl) (by kernel_rfl) (fun _ _ _ h => h) (Or.inl ⟨rfl, fun W hW => by go_simp⟩) hS0 ?_
          simp only [Act.put, List.setIfInBounds_toArray, List.set_cons_zero, List.set_cons_succ]
          refine takeR (fuel := 26) (i := 6) (v := .pointer (some ⟨w.heap.size, 3, none⟩)) rfl (by kernel_rfl) (by kernel_rfl) (by kernel_rfl) (fun _ _ _ h => h) (Or.inl ⟨rfl, fun W hW => by go_simp⟩) hS0 ?_
          simp only [Act.put, List.setIfInBounds_toArray, List.set_cons_zero, List.set_cons_succ]
          refine takeR (fuel := 25) (i := 7) (v := .int .i64 i3) rfl (by kernel_rfl) (by kernel_rfl) (by kernel_rfl) (fun _ _ _ h => h) (Or.inl ⟨rfl, fun W hW => by have cj : W.cell? ⟨w.heap.size, 3, none⟩ = some (.int .i64 i3) := (hX.keep hW).cell 3; go_simp⟩) hS0 ?_
          simp only [Act.put, List.setIfInBounds_toArray, List.set_cons_zero, List.set_cons_succ]
          refine takeR (fuel := 24) (i := 8) (v := .pointer (some ⟨w.heap.size + 1, 3, none⟩)) rfl (by kernel_rfl) (by kernel_rfl) (by kernel_rfl) (fun _ _ _ h => h) (Or.inl ⟨rfl, fun W hW => by go_simp⟩) hS0 ?_
          simp only [Act.put, List.setIfInBounds_toArray, List.set_cons_zero, List.set_cons_succ]
          refine takeR (fuel := 23) (i := 9) (v := .int .i64 j3) rfl (by kernel_rfl) (by kernel_rfl) (by kernel_rfl) (fun _ _ _ h => h) (Or.inl ⟨rfl, fun W hW => by have cj : W.cell? ⟨w.heap.size + 1, 3, none⟩ = some (.int .i64 j3) := (hY.keep hW).cell 3; go_simp⟩) hS0 ?_
          simp only [Act.put, List.setIfInBounds_toArray, List.set_cons_zero, List.set_cons_succ]
          refine takeR (fuel := 22) (i := 10) (v := .bool true) rfl (by kernel_rfl) (by kernel_rfl) (by kernel_rfl) (fun _ _ _ h => h) (Or.inl ⟨rfl, fun W hW => by go_simp⟩) hS0 ?_
          simp only [Act.put, List.setIfInBounds_toArray, List.set_cons_zero, List.set_cons_succ]
          refine takeR (fuel := 21) (i := 11) (v := .bool true) rfl (by kernel_rfl) (by kernel_rfl) (by kernel_rfl) (fun _ _ _ h => h) (Or.inl ⟨rfl, fun W hW => by go_simp⟩) hS0 ?_
          simp only [Act.put, List.setIfInBounds_toArray, List.set_cons_zero, List.set_cons_succ]
          refine takeR (fuel := 20) (i := 12) (v := .bool true) rfl (by kernel_rfl) (by kernel_rfl) (by kernel_rfl) (fun _ _ _ h => h) (Or.inl ⟨rfl, fun W hW => by go_simp⟩) hS0 ?_
          simp only [Act.put, List.setIfInBounds_toArray, List.set_cons_zero, List.set_cons_succ]
          refine takeR (fuel := 19) (i := 13) (v := .agg #[.int .i64 i0, .int .i64 i1, .string s, .int .i64 i3, .int .i64 i4, .int .i64 i5, .slice ca nc cc, .int .i64 i7, .int .i64 i8, .slice ba nb bc]) rfl (by kernel_rfl) (by kernel_rfl) (by kernel_rfl) (fun _ _ _ h => h) (Or.inl ⟨rfl, fun W hW => exl _ _ 25 _ rfl (.pointer (some ⟨w.heap.size, 0, none⟩)) _ rfl (loadB (hX.keep hW))⟩) hS0 ?_
          simp only [Act.put, List.setIfInBounds_toArray, List.set_cons_zero, List.set_cons_succ]
          refine takeR (fuel := 18) (i := 15) (v := .agg #[.int .i64 j0, .int .i64 j1, .string t, .int .i64 j3, .int .i64 j4, .int .i64 j5, .slice cb nd cd, .int .i64 j7, .int .i64 j8, .slice bb nn bd]) rfl (by kernel_rfl) (by kernel_rfl) (by kernel_rfl) (fun _ _ _ h => h) (Or.inl ⟨rfl, fun W hW => exl _ _ 25 _ rfl (.pointer (some ⟨w.heap.size + 1, 0, none⟩)) _ rfl (loadB (hY.keep hW))⟩) hS0 ?_
          simp only [Act.put, List.setIfInBounds_toArray, List.set_cons_zero, List.set_cons_succ]
          refine consR (fuel := 17) (i := 14) rfl (by kernel_rfl) (fun K hK => ?_)
          rw [if_pos (by rfl)]
          go_simp
          refine (H1.out _).mono ?_
          rintro e hb1w ⟨rfl, hb1⟩
          refine hK.out _ _ (hS0.trans (hb1.out.mono hS0.size)) (fun hS1 => ?_)
          clear hK
          try simp only [Act.put, List.setIfInBounds_toArray, List.set_cons_zero, List.set_cons_succ]
          refine consR (fuel := 16) (i := 16) rfl (by kernel_rfl) (fun K hK => ?_)
          rw [if_pos (by rfl)]
          go_simp
          refine (H2.out _).mono ?_
          rintro e hb2w ⟨rfl, hb2⟩
          refine hK.out _ _ (hS1.trans (hb2.out.mono hS1.size)) (fun hS2 => ?_)
          clear hK
          try simp only [Act.put, List.setIfInBounds_toArray, List.set_cons_zero, List.set_cons_succ]
          refine takeR (fuel := 15) (i := 17) (v := .bool true) rfl (by kernel_rfl) (by kernel_rfl) (by kernel_rfl) (fun _ _ _ h => h) (Or.inl ⟨rfl, fun W hW => by go_simp⟩) hS2 ?_
          simp only [Act.put, List.setIfInBounds_toArray, List.set_cons_zero, List.set_cons_succ]
          refine takeR (fuel := 14) (i := 18) (v := .bool true) rfl (by kernel_rfl) (by kernel_rfl) (by kernel_rfl) (fun _ _ _ h => h) (Or.inl ⟨rfl, fun W hW => by go_simp⟩) hS2 ?_
          simp only [Act.put, List.setIfInBounds_toArray, List.set_cons_zero, List.set_cons_succ]
          refine takeR (fuel := 13) (i := 19) (v := .bool true) rfl (by kernel_rfl) (by kernel_rfl) (by kernel_rfl) (fun _ _ _ h => h) (Or.inl ⟨rfl, fun W hW => by go_simp⟩) hS2 ?_
          simp only [Act.put, List.setIfInBounds_toArray, List.set_cons_zero, List.set_cons_succ]
          refine takeR (fuel := 12) (i := 20) (v := .pointer (some ⟨w.heap.size, 5, none⟩)) rfl (by kernel_rfl) (by kernel_rfl) (by kernel_rfl) (fun _ _ _ h => h) (Or.inl ⟨rfl, fun W hW => by go_simp⟩) hS2 ?_
          simp only [Act.put, List.setIfInBounds_toArray, List.set_cons_zero, List.set_cons_succ]
          refine takeR (fuel := 11) (i := 21) (v := .int .i64 i5) rfl (by kernel_rfl) (by kernel_rfl) (by kernel_rfl) (fun _ _ _ h => h) (Or.inl ⟨rfl, fun W hW => by have cj : W.cell? ⟨w.heap.size, 5, none⟩ = some (.int .i64 i5) := (hX.keep hW).cell 5; go_simp⟩) hS2 ?_
          simp only [Act.put, List.setIfInBounds_toArray, List.set_cons_zero, List.set_cons_succ]
          refine takeR (fuel := 10) (i := 22) (v := .pointer (some ⟨w.heap.size + 1, 5, none⟩)) rfl (by kernel_rfl) (by kernel_rfl) (by kernel_rfl) (fun _ _ _ h => h) (Or.inl ⟨rfl, fun W hW => by go_simp⟩) hS2 ?_
          simp only [Act.put, List.setIfInBounds_toArray, List.set_cons_zero, List.set_cons_succ]
          refine takeR (fuel := 9) (i := 23) (v := .int .i64 j5) rfl (by kernel_rfl) (by kernel_rfl) (by kernel_rfl) (fun _ _ _ h => h) (Or.inl ⟨rfl, fun W hW => by have cj : W.cell? ⟨w.heap.size + 1, 5, none⟩ = some (.int .i64 j5) := (hY.keep hW).cell 5; go_simp⟩) hS2 ?_
          simp only [Act.put, List.setIfInBounds_toArray, List.set_cons_zero, List.set_cons_succ]
          refine takeR (fuel := 8) (i := 24) (v := .bool false) rfl (by kernel_rfl) (by kernel_rfl) (by kernel_rfl) (fun _ _ _ h => h) (Or.inl ⟨rfl, fun W hW => by go_simp⟩) hS2 ?_
          simp only [Act.put, List.setIfInBounds_toArray, List.set_cons_zero, List.set_cons_succ]
          refine takeR (fuel := 7) (i := 25) (v := .bool false) rfl (by kernel_rfl) (by kernel_rfl) (by kernel_rfl) (fun _ _ _ h => h) (Or.inl ⟨rfl, fun W hW => by go_simp⟩) hS2 ?_
          simp only [Act.put, List.setIfInBounds_toArray, List.set_cons_zero, List.set_cons_succ]
          refine takeR (fuel := 6) (i := 26) (v := .bool false) rfl (by kernel_rfl) (by kernel_rfl) (by kernel_rfl) (fun _ _ _ h => h) (Or.inl ⟨rfl, fun W hW => by go_simp⟩) hS2 ?_
          simp only [Act.put, List.setIfInBounds_toArray, List.set_cons_zero, List.set_cons_succ]
          refine takeR (fuel := 5) (i := 27) (v := undef) rfl (by kernel_rfl) (by kernel_rfl) (by kernel_rfl) (fun _ _ _ h => h) (Or.inr ⟨rfl, rfl⟩) hS2 ?_
          simp only [Act.put, List.setIfInBounds_toArray, List.set_cons_zero, List.set_cons_succ]
          refine takeR (fuel := 4) (i := 28) (v := undef) rfl (by kernel_rfl) (by kernel_rfl) (by kernel_rfl) (fun _ _ _ h => h) (Or.inr ⟨rfl, rfl⟩) hS2 ?_
          simp only [Act.put, List.setIfInBounds_toArray, List.set_cons_zero, List.set_cons_succ]
          refine takeR (fuel := 3) (i := 29) (v := undef) rfl (by kernel_rfl) (by kernel_rfl) (by kernel_rfl) (fun _ _ _ h => h) (Or.inr ⟨rfl, rfl⟩) hS2 ?_
          simp only [Act.put, List.setIfInBounds_toArray, List.set_cons_zero, List.set_cons_succ]
          refine takeR (fuel := 2) (i := 30) (v := undef) rfl (by kernel_rfl) (by kernel_rfl) (by kernel_rfl) (fun _ _ _ h => h) (Or.inr ⟨rfl, rfl⟩) hS2 ?_
          simp only [Act.put, List.setIfInBounds_toArray, List.set_cons_zero, List.set_cons_succ]
          refine takeR (fuel := 1) (i := 31) (v := .bool false) rfl (by kernel_rfl) (by kernel_rfl) (by kernel_rfl) (fun _ _ _ h => h) (Or.inl ⟨rfl, fun W hW => by go_simp⟩) hS2 ?_
          simp only [Act.put, List.setIfInBounds_toArray, List.set_cons_zero, List.set_cons_succ]
          refine takeR (fuel := 0) (i := 32) (v := .bool false) rfl (by kernel_rfl) (by kernel_rfl) (by kernel_rfl) (fun _ _ _ h => h) (Or.inl ⟨rfl, fun W hW => by go_simp⟩) hS2 ?_
          simp only [Act.put, List.setIfInBounds_toArray, List.set_cons_zero, List.set_cons_succ]
          refine wpAnyH_done (by kernel_rfl) ?_ _
          go_wp2_with fail
          go_ret
          exact KP.mk (congrArg Value.bool HG3.out) (HB.out.trans (hS2.mono HB.out.size))
      · have HG3 : Hid (false = g) := by have := HG2.out; rw [decide_eq_false k4] at this; exact this
        clear HG2
        have hS0 : Below w0.heap.size w0 w0.drew := (Below.refl _ w0).drew
        refine wp_region_held (S := fun W => Below w0.heap.size w0 W) (by kernel_rfl) ?_
        change wpAnyH _ _ _ _ _ 33 #[false, false, false, false, false, false, false, false, false, false, false, false, false, false, false, false, false, false, false, false, false, false, false, false, false, false, false, false, false, false, false, false, false] _ w0.drew
        obtain ⟨v0, hv0⟩ : ∃ v, v = w0.drew := ⟨_, rfl⟩
        rw [← hv0] at hS0 ⊢
        clear hv0
        refine takeR (fuel := 32) (i := 0) (v := .pointer (some ⟨w.heap.size, 2, none⟩)) rfl (by kernel_rfl) (by kernel_rfl) (by kernel_rfl) (fun _ _ _ h => h) (Or.inl ⟨rfl, fun W hW => by go_simp⟩) hS0 ?_
        simp only [Act.put, List.setIfInBounds_toArray, List.set_cons_zero, List.set_cons_succ]
        refine takeR (fuel := 31) (i := 1) (v := .string s) rfl (by kernel_rfl) (by kernel_rfl) (by kernel_rfl) (fun _ _ _ h => h) (Or.inl ⟨rfl, fun W hW => by have cj : W.cell? ⟨w.heap.size, 2, none⟩ = some (.string s) := (hX.keep hW).cell 2; go_simp⟩) hS0 ?_
        simp only [Act.put, List.setIfInBounds_toArray, List.set_cons_zero, List.set_cons_succ]
        refine takeR (fuel := 30) (i := 2) (v := .pointer (some ⟨w.heap.size + 1, 2, none⟩)) rfl (by kernel_rfl) (by kernel_rfl) (by kernel_rfl) (fun _ _ _ h => h) (Or.inl ⟨rfl, fun W hW => by go_simp⟩) hS0 ?_
        simp only [Act.put, List.setIfInBounds_toArray, List.set_cons_zero, List.set_cons_succ]
        refine takeR (fuel := 29) (i := 3) (v := .string t) rfl (by kernel_rfl) (by kernel_rfl) (by kernel_rfl) (fun _ _ _ h => h) (Or.inl ⟨rfl, fun W hW => by have cj : W.cell? ⟨w.heap.size + 1, 2, none⟩ = some (.string t) := (hY.keep hW).cell 2; go_simp⟩) hS0 ?_
        simp only [Act.put, List.setIfInBounds_toArray, List.set_cons_zero, List.set_cons_succ]
        refine takeR (fuel := 28) (i := 4) (v := .bool true) rfl (by kernel_rfl) (by kernel_rfl) (by kernel_rfl) (fun _ _ _ h => h) (Or.inl ⟨rfl, fun W hW => by go_simp⟩) hS0 ?_
        simp only [Act.put, List.setIfInBounds_toArray, List.set_cons_zero, List.set_cons_succ]
        refine takeR (fuel := 27) (i := 5) (v := .bool true) rfl (by kernel_rfl) (by kernel_rfl) (by kernel_rfl) (fun _ _ _ h => h) (Or.inl ⟨rfl, fun W hW => by go_simp⟩) hS0 ?_
        simp only [Act.put, List.setIfInBounds_toArray, List.set_cons_zero, List.set_cons_succ]
        refine takeR (fuel := 26) (i := 6) (v := .pointer (some ⟨w.heap.size, 3, none⟩)) rfl (by kernel_rfl) (by kernel_rfl) (by kernel_rfl) (fun _ _ _ h => h) (Or.inl ⟨rfl, fun W hW => by go_simp⟩) hS0 ?_
        simp only [Act.put, List.setIfInBounds_toArray, List.set_cons_zero, List.set_cons_succ]
        refine takeR (fuel := 25) (i := 7) (v := .int .i64 i3) rfl (by kernel_rfl) (by kernel_rfl) (by kernel_rfl) (fun _ _ _ h => h) (Or.inl ⟨rfl, fun W hW => by have cj : W.cell? ⟨w.heap.size, 3, none⟩ = some (.int .i64 i3) := (hX.keep hW).cell 3; go_simp⟩) hS0 ?_
        simp only [Act.put, List.setIfInBounds_toArray, List.set_cons_zero, List.set_cons_succ]
        refine takeR (fuel := 24) (i := 8) (v := .pointer (some ⟨w.heap.size + 1, 3, none⟩)) rfl (by kernel_rfl) (by kernel_rfl) (by kernel_rfl) (fun _ _ _ h => h) (Or.inl ⟨rfl, fun W hW => by go_simp⟩) hS0 ?_
        simp only [Act.put, List.setIfInBounds_toArray, List.set_cons_zero, List.set_cons_succ]
        refine takeR (fuel := 23) (i := 9) (v := .int .i64 j3) rfl (by kernel_rfl) (by kernel_rfl) (by kernel_rfl) (fun _ _ _ h => h) (Or.inl ⟨rfl, fun W hW => by have cj : W.cell? ⟨w.heap.size + 1, 3, none⟩ = some (.int .i64 j3) := (hY.keep hW).cell 3; go_simp⟩) hS0 ?_
        simp only [Act.put, List.setIfInBounds_toArray, List.set_cons_zero, List.set_cons_succ]
        refine takeR (fuel := 22) (i := 10) (v := .bool true) rfl (by kernel_rfl) (by kernel_rfl) (by kernel_rfl) (fun _ _ _ h => h) (Or.inl ⟨rfl, fun W hW => by go_simp⟩) hS0 ?_
        simp only [Act.put, List.setIfInBounds_toArray, List.set_cons_zero, List.set_cons_succ]
        refine takeR (fuel := 21) (i := 11) (v := .bool true) rfl (by kernel_rfl) (by kernel_rfl) (by kernel_rfl) (fun _ _ _ h => h) (Or.inl ⟨rfl, fun W hW => by go_simp⟩) hS0 ?_
        simp only [Act.put, List.setIfInBounds_toArray, List.set_cons_zero, List.set_cons_succ]
        refine takeR (fuel := 20) (i := 12) (v := .bool true) rfl (by kernel_rfl) (by kernel_rfl) (by kernel_rfl) (fun _ _ _ h => h) (Or.inl ⟨rfl, fun W hW => by go_simp⟩) hS0 ?_
        simp only [Act.put, List.setIfInBounds_toArray, List.set_cons_zero, List.set_cons_succ]
        refine takeR (fuel := 19) (i := 13) (v := .agg #[.int .i64 i0, .int .i64 i1, .string s, .int .i64 i3, .int .i64 i4, .int .i64 i5, .slice ca nc cc, .int .i64 i7, .int .i64 i8, .slice ba nb bc]) rfl (by kernel_rfl) (by kernel_rfl) (by kernel_rfl) (fun _ _ _ h => h) (Or.inl ⟨rfl, fun W hW => exl _ _ 25 _ rfl (.pointer (some ⟨w.heap.size, 0, none⟩)) _ rfl (loadB (hX.keep hW))⟩) hS0 ?_
        simp only [Act.put, List.setIfInBounds_toArray, List.set_cons_zero, List.set_cons_succ]
        refine takeR (fuel := 18) (i := 15) (v := .agg #[.int .i64 j0, .int .i64 j1, .string t, .int .i64 j3, .int .i64 j4, .int .i64 j5, .slice cb nd cd, .int .i64 j7, .int .i64 j8, .slice bb nn bd]) rfl (by kernel_rfl) (by kernel_rfl) (by kernel_rfl) (fun _ _ _ h => h) (Or.inl ⟨rfl, fun W hW => exl _ _ 25 _ rfl (.pointer (some ⟨w.heap.size + 1, 0, none⟩)) _ rfl (loadB (hY.keep hW))⟩) hS0 ?_
        simp only [Act.put, List.setIfInBounds_toArray, List.set_cons_zero, List.set_cons_succ]
        refine consR (fuel := 17) (i := 14) rfl (by kernel_rfl) (fun K hK => ?_)
        rw [if_pos (by rfl)]
        go_simp
        refine (H1.out _).mono ?_
        rintro e hb1w ⟨rfl, hb1⟩
        refine hK.out _ _ (hS0.trans (hb1.out.mono hS0.size)) (fun hS1 => ?_)
        clear hK
        try simp only [Act.put, List.setIfInBounds_toArray, List.set_cons_zero, List.set_cons_succ]
        refine consR (fuel := 16) (i := 16) rfl (by kernel_rfl) (fun K hK => ?_)
        rw [if_pos (by rfl)]
        go_simp
        refine (H2.out _).mono ?_
        rintro e hb2w ⟨rfl, hb2⟩
        refine hK.out _ _ (hS1.trans (hb2.out.mono hS1.size)) (fun hS2 => ?_)
        clear hK
        try simp only [Act.put, List.setIfInBounds_toArray, List.set_cons_zero, List.set_cons_succ]
        refine takeR (fuel := 15) (i := 17) (v := .bool false) rfl (by kernel_rfl) (by kernel_rfl) (by kernel_rfl) (fun _ _ _ h => h) (Or.inl ⟨rfl, fun W hW => by go_simp⟩) hS2 ?_
        simp only [Act.put, List.setIfInBounds_toArray, List.set_cons_zero, List.set_cons_succ]
        refine takeR (fuel := 14) (i := 18) (v := .bool false) rfl (by kernel_rfl) (by kernel_rfl) (by kernel_rfl) (fun _ _ _ h => h) (Or.inl ⟨rfl, fun W hW => by go_simp⟩) hS2 ?_
        simp only [Act.put, List.setIfInBounds_toArray, List.set_cons_zero, List.set_cons_succ]
        refine takeR (fuel := 13) (i := 19) (v := .bool false) rfl (by kernel_rfl) (by kernel_rfl) (by kernel_rfl) (fun _ _ _ h => h) (Or.inl ⟨rfl, fun W hW => by go_simp⟩) hS2 ?_
        simp only [Act.put, List.setIfInBounds_toArray, List.set_cons_zero, List.set_cons_succ]
        refine takeR (fuel := 12) (i := 20) (v := undef) rfl (by kernel_rfl) (by kernel_rfl) (by kernel_rfl) (fun _ _ _ h => h) (Or.inr ⟨rfl, rfl⟩) hS2 ?_
        simp only [Act.put, List.setIfInBounds_toArray, List.set_cons_zero, List.set_cons_succ]
        refine takeR (fuel := 11) (i := 21) (v := undef) rfl (by kernel_rfl) (by kernel_rfl) (by kernel_rfl) (fun _ _ _ h => h) (Or.inr ⟨rfl, rfl⟩) hS2 ?_
        simp only [Act.put, List.setIfInBounds_toArray, List.set_cons_zero, List.set_cons_succ]
        refine takeR (fuel := 10) (i := 22) (v := undef) rfl (by kernel_rfl) (by kernel_rfl) (by kernel_rfl) (fun _ _ _ h => h) (Or.inr ⟨rfl, rfl⟩) hS2 ?_
        simp only [Act.put, List.setIfInBounds_toArray, List.set_cons_zero, List.set_cons_succ]
        refine takeR (fuel := 9) (i := 23) (v := undef) rfl (by kernel_rfl) (by kernel_rfl) (by kernel_rfl) (fun _ _ _ h => h) (Or.inr ⟨rfl, rfl⟩) hS2 ?_
        simp only [Act.put, List.setIfInBounds_toArray, List.set_cons_zero, List.set_cons_succ]
        refine takeR (fuel := 8) (i := 24) (v := undef) rfl (by kernel_rfl) (by kernel_rfl) (by kernel_rfl) (fun _ _ _ h => h) (Or.inr ⟨rfl, rfl⟩) hS2 ?_
        simp only [Act.put, List.setIfInBounds_toArray, List.set_cons_zero, List.set_cons_succ]
        refine takeR (fuel := 7) (i := 25) (v := .bool false) rfl (by kernel_rfl) (by kernel_rfl) (by kernel_rfl) (fun _ _ _ h => h) (Or.inl ⟨rfl, fun W hW => by go_simp⟩) hS2 ?_
        simp only [Act.put, List.setIfInBounds_toArray, List.set_cons_zero, List.set_cons_succ]
        refine takeR (fuel := 6) (i := 26) (v := .bool false) rfl (by kernel_rfl) (by kernel_rfl) (by kernel_rfl) (fun _ _ _ h => h) (Or.inl ⟨rfl, fun W hW => by go_simp⟩) hS2 ?_
        simp only [Act.put, List.setIfInBounds_toArray, List.set_cons_zero, List.set_cons_succ]
        refine takeR (fuel := 5) (i := 27) (v := undef) rfl (by kernel_rfl) (by kernel_rfl) (by kernel_rfl) (fun _ _ _ h => h) (Or.inr ⟨rfl, rfl⟩) hS2 ?_
        simp only [Act.put, List.setIfInBounds_toArray, List.set_cons_zero, List.set_cons_succ]
        refine takeR (fuel := 4) (i := 28) (v := undef) rfl (by kernel_rfl) (by kernel_rfl) (by kernel_rfl) (fun _ _ _ h => h) (Or.inr ⟨rfl, rfl⟩) hS2 ?_
        simp only [Act.put, List.setIfInBounds_toArray, List.set_cons_zero, List.set_cons_succ]
        refine takeR (fuel := 3) (i := 29) (v := undef) rfl (by kernel_rfl) (by kernel_rfl) (by kernel_rfl) (fun _ _ _ h => h) (Or.inr ⟨rfl, rfl⟩) hS2 ?_
        simp only [Act.put, List.setIfInBounds_toArray, List.set_cons_zero, List.set_cons_succ]
        refine takeR (fuel := 2) (i := 30) (v := undef) rfl (by kernel_rfl) (by kernel_rfl) (by kernel_rfl) (fun _ _ _ h => h) (Or.inr ⟨rfl, rfl⟩) hS2 ?_
        simp only [Act.put, List.setIfInBounds_toArray, List.set_cons_zero, List.set_cons_succ]
        refine takeR (fuel := 1) (i := 31) (v := .bool false) rfl (by kernel_rfl) (by kernel_rfl) (by kernel_rfl) (fun _ _ _ h => h) (Or.inl ⟨rfl, fun W hW => by go_simp⟩) hS2 ?_
        simp only [Act.put, List.setIfInBounds_toArray, List.set_cons_zero, List.set_cons_succ]
        refine takeR (fuel := 0) (i := 32) (v := .bool false) rfl (by kernel_rfl) (by kernel_rfl) (by kernel_rfl) (fun _ _ _ h => h) (Or.inl ⟨rfl, fun W hW => by go_simp⟩) hS2 ?_
        simp only [Act.put, List.setIfInBounds_toArray, List.set_cons_zero, List.set_cons_succ]
        refine wpAnyH_done (by kernel_rfl) ?_ _
        go_wp2_with fail
        go_ret
        exact KP.mk (congrArg Value.bool HG3.out) (HB.out.trans (hS2.mono HB.out.size))
    · have HG2 : Hid (false = g) := by have := HG.out; rw [decide_eq_false k3] at this; exact this
      clear HG
      go_quiet (fail)
      go_wp2_with fail
      go_ret
      exact KP.mk (congrArg Value.bool HG2.out) (bdrew HB.out _)
theorem xwithinA (x y : Bm) (w : World) (hx : Ha w.heap.size w x) (hy : Ha w.heap.size w y) (hlx : x.b.bar.length ≤ 1000000) (hly : y.b.bar.length ≤ 1000000) : Calls Try.prog 13 #[.agg (bcs x).toArray, .agg (bcs y).toArray] w (KP (.bool (wi x.b y.b)) w) :=
  xwith0 x.b.id x.b.ver x.b.rat x.b.least x.b.most x.b.iss x.b.ass y.b.id y.b.ver y.b.rat y.b.least y.b.most y.b.iss y.b.ass ⟨x.b.cur.toArray⟩ ⟨y.b.cur.toArray⟩ x.ca x.ba y.ca y.ba x.b.cuts.length x.cc x.bc y.b.cuts.length y.cc y.bc x.b.bar y.b.bar w hx.2 hy.2 hlx hly _ rfl _ _ rfl rfl _ rfl _ (by rw [toL x.b.cur, toL y.b.cur]; rfl)
end Go.Proofs.Ytmjaijpikbdfkaa
