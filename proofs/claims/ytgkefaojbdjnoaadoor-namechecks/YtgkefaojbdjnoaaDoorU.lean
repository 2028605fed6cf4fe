/- The reference's Text. Condition: it is a sign's number. -/
import Derived.Test.YtgkefaojbdjnoaaDoorS
import Derived.WalkKit
import Derived.ProofKit
import Derived.Handy
import Derived.WalkLawsBesides
import Derived.WalkSpells
import Derived.BigQuiet
import Derived.BigCall
import Derived.Deep.QuietTactic
import Derived.Deep.Light
import Derived.Deep.OwnRows
import Derived.Laws.AppendOwnNone
import Derived.Laws.Strings3
import Derived.Laws.RangeAny
import Derived.Deep.RegionWith
import Derived.Lib.BitFns
import Derived.Lib.Walk
import Derived.Lib.Strings
import Derived.Lib.OthersKept
import Derived.Deep.CutBlock
import Derived.Deep.DeepCutAuto
import Derived.Deep.LoopGhost
import Derived.Deep.RegionHeld3
import Derived.Lib.SmallJoins
import Derived.Maps.AppendAt
import Derived.Laws.IdiomStrings
namespace Go.Proofs.YtgkefaojbdjnoaaDoor
open Go.RowKit
set_option linter.unusedVariables false
set_option linter.unusedSimpArgs false
theorem str_of {w : World} {l : List UInt8} {b cap : Nat} (hb : w.heap[b]? = some (.cells (Lib.byteCells l).toArray 5 (0, 0))) : (convert 50 9 (Value.slice (some ⟨b, 0, none⟩) l.length cap)).run Tryd.prog w = .ok (.string ⟨l.toArray⟩) w := by
  refine run_convert_bytes_back w 50 9 5 ⟨b, 0, none⟩ cap l Tryd.underlying50 Tryd.underlying5 Tryd.underlying9 ?_
  intro j hj
  have ha : (⟨b, 0, none⟩ : Addr).add j = ⟨b, j, none⟩ := by
    cases j <;> simp [Addr.add]
  rw [ha]
  simp [World.cell?, hb, Lib.byteCells, hj]
theorem str_new (w : World) (l : List UInt8) (cap : Nat) : (convert 50 9 (Value.slice (some ⟨w.heap.size, 0, none⟩) l.length cap)).run Tryd.prog (w.alloc (.cells (Lib.byteCells l).toArray 5)) = .ok (.string ⟨l.toArray⟩) (w.alloc (.cells (Lib.byteCells l).toArray 5)) := str_of (heap_alloc_new w _)
theorem str_enc (w : World) (c : Nat) (zs : List Int) (h : Lib.encodeRuneZ (c : Int) = zs) : (convert 50 9 (Value.slice (some ⟨w.heap.size, 0, none⟩) zs.length zs.length)).run Tryd.prog (w.alloc (.cells (zs.map (Value.int .u8)).toArray 5)) = .ok (.string ⟨(enc c).toArray⟩) (w.alloc (.cells (zs.map (Value.int .u8)).toArray 5)) := by
  have h1 := str_new w (enc c) zs.length
  have h2 : (enc c).length = zs.length := by
    rw [← h]
    simp [enc, Lib.encodeRune]
  have h3 : Lib.byteCells (enc c) = zs.map (Value.int .u8) := by
    rw [enc, Lib.byteCells_encodeRune, Lib.runeCells, h]
  rw [h2, h3] at h1
  exact h1
theorem below_new (w : World) (o : Obj) : Below w.heap.size w (w.alloc o) := (Below.refl _ w).alloc (Nat.le_refl _) _
set_option maxHeartbeats 4000000 in
theorem rtext (c : Nat) (hv : Vl c) (w : World) : Calls Tryd.prog 44 #[.int .i64 c] w (STB (enc c) w) := by
  have hc := hv.le
  unfold Vl at hv
  by_cases h1 : c < 128
  · have h1' : (c : Int) < 128 := by omega
    have hcv : (convert 50 9 (Value.slice (some ⟨w.heap.size, 0, none⟩) 1 1)).run Tryd.prog (w.alloc (.cells #[.int .u8 ((c : Int))] 5)) = .ok (.string ⟨(enc c).toArray⟩) (w.alloc (.cells #[.int .u8 ((c : Int))] 5)) := str_enc w c _ (Lib.encodeRuneZ_one (by omega) (by omega))
    clear hv
    generalize enc c = E at *
    go_enter Tryd.func44, Tryd.ntmps44
    go_wp2_with fail
    go_ret
    exact STB.mk (s := ⟨E.toArray⟩) rfl (below_new w _)
  have h1' : ¬ (c : Int) < 128 := by omega
  by_cases h2 : c < 2048
  · have h2' : (c : Int) < 2048 := by omega
    have hcv : (convert 50 9 (Value.slice (some ⟨w.heap.size, 0, none⟩) 2 2)).run Tryd.prog (w.alloc (.cells #[.int .u8 (192 + (c : Int) / 64), .int .u8 (128 + (c : Int) % 64)] 5)) = .ok (.string ⟨(enc c).toArray⟩) (w.alloc (.cells #[.int .u8 (192 + (c : Int) / 64), .int .u8 (128 + (c : Int) % 64)] 5)) := str_enc w c _ (Lib.encodeRuneZ_two (by omega) (by omega))
    clear hv
    generalize enc c = E at *
    go_enter Tryd.func44, Tryd.ntmps44
    go_wp2_with fail
    go_ret
    exact STB.mk (s := ⟨E.toArray⟩) rfl (below_new w _)
  have h2' : ¬ (c : Int) < 2048 := by omega
  by_cases h3 : c < 65536
  · have h3' : (c : Int) < 65536 := by omega
    have hcv : (convert 50 9 (Value.slice (some ⟨w.heap.size, 0, none⟩) 3 3)).run Tryd.prog (w.alloc (.cells #[.int .u8 (224 + (c : Int) / 4096), .int .u8 (128 + (c : Int) / 64 % 64), .int .u8 (128 + (c : Int) % 64)] 5)) = .ok (.string ⟨(enc c).toArray⟩) (w.alloc (.cells #[.int .u8 (224 + (c : Int) / 4096), .int .u8 (128 + (c : Int) / 64 % 64), .int .u8 (128 + (c : Int) % 64)] 5)) := str_enc w c _ (Lib.encodeRuneZ_three (by omega))
    clear hv
    generalize enc c = E at *
    go_enter Tryd.func44, Tryd.ntmps44
    go_wp2_with fail
    go_ret
    exact STB.mk (s := ⟨E.toArray⟩) rfl (below_new w _)
  · have h3' : ¬ (c : Int) < 65536 := by omega
    have hcv : (convert 50 9 (Value.slice (some ⟨w.heap.size, 0, none⟩) 4 4)).run Tryd.prog (w.alloc (.cells #[.int .u8 (240 + (c : Int) / 262144), .int .u8 (128 + (c : Int) / 4096 % 64), .int .u8 (128 + (c : Int) / 64 % 64), .int .u8 (128 + (c : Int) % 64)] 5)) = .ok (.string ⟨(enc c).toArray⟩) (w.alloc (.cells #[.int .u8 (240 + (c : Int) / 262144), .int .u8 (128 + (c : Int) / 4096 % 64), .int .u8 (128 + (c : Int) / 64 % 64), .int .u8 (128 + (c : Int) % 64)] 5)) := str_enc w c _ (Lib.encodeRuneZ_four (by omega) (by omega))
    clear hv
    generalize enc c = E at *
    go_enter Tryd.func44, Tryd.ntmps44
    go_wp2_with fail
    go_ret
    exact STB.mk (s := ⟨E.toArray⟩) rfl (below_new w _)
end Go.Proofs.YtgkefaojbdjnoaaDoor
