/- No journal: nil, and what no call made; law Nobody. -/
import Derived.Test.YteiilifljfagdaaS
import Derived.WalkKit
import Derived.ProofKit
import Derived.Handy
import Derived.WalkLawsBesides
import Derived.WalkSpells
import Derived.BigQuiet
import Derived.BigCall
import Derived.Deep.QuietTactic
import Derived.Deep.Light
import Derived.Deep.OwnRows
import Derived.Laws.AppendOwnNone
import Derived.Laws.Strings3
import Derived.Laws.RangeAny
import Derived.Deep.RegionWith
import Derived.Lib.BitFns
import Derived.Lib.Walk
import Derived.Lib.Strings
import Derived.Lib.OthersKept
import Derived.Deep.CutBlock
import Derived.Deep.DeepCutAuto
import Derived.Deep.LoopGhost
import Derived.Deep.RegionHeld3
import Derived.Lib.SmallJoins
import Derived.Maps.AppendAt
import Derived.Laws.IdiomStrings
import Derived.Lib.AppendZeros
import Derived.Deep.WholeRow
import Derived.Laws.BitsAllLaws
import Derived.Lib.ConvBytes
import Derived.Deep.RegionLaw
namespace Go.Proofs.Yteiilifljfagdaa
open Go.RowKit
set_option linter.unusedVariables false
set_option linter.unusedSimpArgs false
def zero8 : Array Value := #[.bool false, .bool false, .pointer none, .int .i64 0, .int .i64 0, .int .i64 0, .string ⟨#[]⟩, .slice none 0 0]
def Nj (w : World) (v : Value) : Prop := v = .pointer none ∨ ∃ q, v = .pointer (some ⟨q, 0, none⟩) ∧ w.heap[q]? = some (.cells zero8 73 (0, 0))
theorem Nj.keep {w w' : World} {v : Value} (h : Nj w v) (hb : Below w.heap.size w w') : Nj w' v := by
  rcases h with h | ⟨q, h1, h2⟩
  · exact .inl h
  · exact .inr ⟨q, h1, (hb.block q (Array.getElem?_eq_some_iff.1 h2).1).trans h2⟩
set_option maxHeartbeats 4000000 in
theorem nfault (v : Value) (w : World) (h : Nj w v) : Calls Try.prog 45 #[v] w (NP .i64 3 w) := by
  rcases h with rfl | ⟨q, rfl, h⟩
  · go_enter Try.func45, Try.ntmps45
    go_wp2_with fail
    go_ret
    exact NP.mk rfl
  · have c0 : w.cell? ⟨q, 0, none⟩ = some (.bool false) := cell_of_row w q 0 _ 73 (0, 0) h
    clear h
    go_enter Try.func45, Try.ntmps45
    go_wp2_with fail
    go_ret
    exact NP.mk rfl
set_option maxHeartbeats 4000000 in
theorem nadd (v : Value) (w : World) (h : Nj w v) (c : ByteArray) : Calls Try.prog 26 #[v, .string c] w (NP .i64 3 w) := by
  have HF : Hid (Calls Try.prog 45 #[v] w (NP .i64 3 w)) := nfault v w h
  clear h
  go_enter Try.func26, Try.ntmps26
  go_wp2_with fail
  refine HF.out.mono ?_
  rintro e w1 ⟨rfl, rfl⟩
  go_wp2_with fail
  go_ret
  exact NP.mk rfl
set_option maxHeartbeats 4000000 in
theorem nturn (v : Value) (w : World) (h : Nj w v) (c : ByteArray) : Calls Try.prog 24 #[v, .string c] w (NP .i64 3 w) := by
  have HF : Hid (Calls Try.prog 45 #[v] w (NP .i64 3 w)) := nfault v w h
  clear h
  go_enter Try.func24, Try.ntmps24
  go_wp2_with fail
  refine HF.out.mono ?_
  rintro e w1 ⟨rfl, rfl⟩
  go_wp2_with fail
  go_ret
  exact NP.mk rfl
set_option maxHeartbeats 4000000 in
theorem nroom (v : Value) (w : World) (h : Nj w v) : Calls Try.prog 16 #[v] w (NP .i64 0 w) := by
  have HF : Hid (Calls Try.prog 45 #[v] w (NP .i64 3 w)) := nfault v w h
  clear h
  go_enter Try.func16, Try.ntmps16
  go_wp2_with fail
  refine HF.out.mono ?_
  rintro e w1 ⟨rfl, rfl⟩
  go_wp2_with fail
  go_ret
  exact NP.mk rfl
set_option maxHeartbeats 4000000 in
theorem nstate (v : Value) (w : World) (h : Nj w v) : Calls Try.prog 17 #[v] w fun e w' => e = .returned (.string ⟨#[]⟩) ∧ Below w.heap.size w w' := by
  rcases h with rfl | ⟨q, rfl, h⟩
  · go_enter Try.func17, Try.ntmps17
    go_wp2_with fail
    go_ret
    exact ⟨rfl, Below.refl _ _⟩
  · have c6 : w.cell? ⟨q, 6, none⟩ = some (.string ⟨#[]⟩) := cell_of_row w q 6 _ 73 (0, 0) h
    clear h
    go_enter Try.func17, Try.ntmps17
    go_wp2_with fail
    refine (xclone ⟨#[]⟩ (by decide) _).mono ?_
    rintro e w1 ⟨rfl, hb⟩
    have HB : Hid (Below w.heap.size w w1) := hb
    clear hb
    go_wp2_with fail
    go_ret
    exact ⟨rfl, HB.out⟩
set_option maxHeartbeats 4000000 in
theorem nseq (v : Value) (w : World) (h : Nj w v) : Calls Try.prog 20 #[v] w fun e w' => e = .returned (.int .i64 0) ∧ Below w.heap.size w w' := by
  rcases h with rfl | ⟨q, rfl, h⟩
  · go_enter Try.func20, Try.ntmps20
    go_wp2_with fail
    go_ret
    exact ⟨rfl, Below.refl _ _⟩
  · have c4 : w.cell? ⟨q, 4, none⟩ = some (.int .i64 0) := cell_of_row w q 4 _ 73 (0, 0) h
    have c5 : w.cell? ⟨q, 5, none⟩ = some (.int .i64 0) := cell_of_row w q 5 _ 73 (0, 0) h
    have c6 : w.cell? ⟨q, 6, none⟩ = some (.string ⟨#[]⟩) := cell_of_row w q 6 _ 73 (0, 0) h
    have c7 : w.cell? ⟨q, 7, none⟩ = some (.slice none 0 0) := cell_of_row w q 7 _ 73 (0, 0) h
    have HS : Hid (∀ w, Calls Try.prog 47 #[.agg #[.int .i64 0, .int .i64 0, .string ⟨#[]⟩, .slice none 0 0]] w fun e w' => e = .returned (.int .i64 0) ∧ Below w.heap.size w w') := fun w => xseqC 0 0 0 0 ⟨#[]⟩ none (by decide) (by decide) w
    clear h
    go_enter Try.func20, Try.ntmps20
    go_wp2_with fail
    refine (HS.out _).mono ?_
    rintro e w1 ⟨rfl, hb⟩
    have HB : Hid (Below w.heap.size w w1) := hb
    clear hb
    go_wp2_with fail
    go_ret
    exact ⟨rfl, HB.out⟩
set_option maxHeartbeats 4000000 in
set_option maxRecDepth 100000 in
theorem ncommands (v : Value) (w : World) (h : Nj w v) : Calls Try.prog 19 #[v] w fun e w' => ∃ x c, e = .returned (.slice x 0 c) ∧ Below w.heap.size w w' := by
  rcases h with rfl | ⟨q, rfl, h⟩
  · go_enter Try.func19, Try.ntmps19
    go_wp2_with fail
    go_ret
    exact ⟨_, _, rfl, Below.refl _ _⟩
  · have c7 : w.cell? ⟨q, 7, none⟩ = some (.slice none 0 0) := cell_of_row w q 7 _ 73 (0, 0) h
    have hlt : q < w.heap.size := (Array.getElem?_eq_some_iff.1 h).1
    have HB0 : Hid (Below w.heap.size w (w.alloc (.cells (madeCells #[.string ⟨#[]⟩] 0) 9))) := below_new w _
    have hmk : (Instr.makeSlice 35 (.int .i64 0) (.int .i64 0)).run Try.prog w = .ok (.slice (some ⟨w.heap.size, 0, none⟩) 0 0) (w.alloc (.cells (madeCells #[.string ⟨#[]⟩] 0) 9)) := make_txt0 0 (by decide) w
    have c8 : (w.alloc (.cells (madeCells #[.string ⟨#[]⟩] 0) 9)).cell? ⟨q, 7, none⟩ = some (.slice none 0 0) := (HB0.out.cell (by exact hlt)).trans c7
    clear h
    go_enter Try.func19, Try.ntmps19
    go_wp2_with fail
    go_loopw [3, 21] (fun u i wr => u = .slice (some ⟨w.heap.size, 0, none⟩) 0 0 ∧ i = .int .i64 0 ∧ Hid (Below w.heap.size w wr)) (fun _ i _ => 0 - (Lib.intOf i).toNat)
    case atStart => exact ⟨rfl, rfl, HB0⟩
    case round =>
      clear HB0 hmk c8
      obtain ⟨rfl, rfl, HB⟩ := hrel
      go_wp2_with fail
      go_ret
      exact ⟨_, _, rfl, HB.out⟩
set_option maxHeartbeats 4000000 in
theorem ncut (i n : Int) (w : World) : Calls Try.prog 31 #[.pointer none, .int .i64 i, .int .i64 n] w (NP .i64 3 w) := by
  go_enter Try.func31, Try.ntmps31
  go_wp2_with fail
  refine (yfind (.pointer none) w (.inl rfl) i).mono ?_
  rintro e w1 ⟨rfl, rfl⟩
  go_wp2_with fail
  go_ret
  exact NP.mk rfl
set_option maxHeartbeats 4000000 in
theorem nread (i : Int) (w : World) : Calls Try.prog 14 #[.pointer none, .int .i64 i] w fun e w' => e = .returned (.tuple #[.string ⟨#[]⟩, .int .i64 3]) ∧ w = w' := by
  go_enter Try.func14, Try.ntmps14
  go_wp2_with fail
  refine (yfind (.pointer none) w (.inl rfl) i).mono ?_
  rintro e w1 ⟨rfl, rfl⟩
  go_wp2_with fail
  go_ret2
  exact ⟨rfl, rfl⟩
set_option maxHeartbeats 4000000 in
theorem nopen (w : World) : Calls Try.prog 28 #[.pointer none] w fun e w' => e = .returned (.tuple #[.pointer none, .int .i64 3]) ∧ w = w' := by
  have HF : Hid (Calls Try.prog 54 #[.pointer none] w fun e w' => e = .returned (.tuple #[.pointer none, .int .i64 0, .int .i64 3]) ∧ w = w') := by
    go_enter Try.func54, Try.ntmps54
    go_wp2_with fail
    go_loopw [5, 6, 15] (fun v n i wr => i = .int .i64 0 ∧ w = wr) (fun _ _ i _ => 0 - (Lib.intOf i).toNat)
    case atStart => exact ⟨rfl, by first | rfl | trivial⟩
    case round =>
      obtain ⟨rfl, rfl⟩ := hrel
      go_wp2_with fail
      refine (nread 0 w).mono ?_
      rintro e w1 ⟨rfl, rfl⟩
      go_wp2_with fail
      go_ret3
      exact ⟨rfl, rfl⟩
  go_enter Try.func28, Try.ntmps28
  go_wp2_with fail
  refine HF.out.mono ?_
  rintro e w1 ⟨rfl, rfl⟩
  go_wp2_with fail
  go_ret2
  exact ⟨rfl, rfl⟩
set_option maxHeartbeats 4000000 in
theorem nformat (s : ByteArray) (w : World) : Calls Try.prog 10 #[.pointer none, .string s] w fun e w' => e = .returned (.tuple #[.pointer none, .int .i64 3]) ∧ w = w' := by
  go_enter Try.func10, Try.ntmps10
  go_wp2_with fail
  go_loopw [12] (fun i wr => i = .int .i64 0 ∧ w = wr) (fun i _ => 0 - (Lib.intOf i).toNat)
  case atStart => exact ⟨rfl, by first | rfl | trivial⟩
  case round =>
    obtain ⟨rfl, rfl⟩ := hrel
    go_wp2_with fail
    refine (ncut 0 0 w).mono ?_
    rintro e w1 ⟨rfl, rfl⟩
    go_wp2_with fail
    go_ret2
    exact ⟨rfl, rfl⟩
end Go.Proofs.Yteiilifljfagdaa
