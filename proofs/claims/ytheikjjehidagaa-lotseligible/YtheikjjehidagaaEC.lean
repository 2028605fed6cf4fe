/- layer 13: what lies in memory: blocks, rows of structs; drawn regions -/
import Derived.Test.YtheikjjehidagaaC
import Derived.Test.YtheikjjehidagaaEA
import Derived.Test.YtheikjjehidagaaShelf
import Derived.WalkKit
import Derived.ProofKit
import Derived.Handy
import Derived.WalkLawsBesides
import Derived.WalkSpells
import Derived.BigQuiet
import Derived.BigCall
import Derived.Deep.QuietTactic
import Derived.Deep.Light
import Derived.Deep.OwnRows
import Derived.Laws.AppendOwnNone
import Derived.Laws.Strings3
import Derived.Laws.RangeAny
import Derived.Deep.RegionWith
import Derived.Lib.BitFns
import Derived.Lib.Walk
import Derived.Lib.Strings
import Derived.Lib.OthersKept
import Derived.Deep.CutBlock
import Derived.Deep.DeepCutAuto
import Derived.Deep.LoopGhost
import Derived.Deep.RegionHeld3
import Derived.Lib.SmallJoins
import Derived.Maps.AppendAt
import Derived.Laws.IdiomStrings
import Derived.Lib.AppendZeros
import Derived.Deep.WholeRow
import Derived.Laws.BitsAllLaws
import Derived.Lib.ConvBytes
import Derived.Deep.RegionLaw
import Derived.Maps.OwnSet
import Derived.Maps.OwnOps
import Derived.Maps.RangeWalk
import Derived.Maps.Ext
import Derived.DeepKeys4
import Derived.Laws.StructEq
import Derived.Deep.MidRow
import Derived.Lib.Bytealg
import Derived.Lib.Overlaps
import Derived.Lib.AppendZerosOnto
import Derived.Laws.MakeOwn
namespace Go.Proofs.Ytheikjjehidagaa.H5
open Go.RowKit
set_option linter.unusedVariables false
set_option linter.unusedSimpArgs false
set_option maxRecDepth 20000
open Num
def kcs (k : Kn) : List Value := [.string k.a.i, .int .i64 k.a.iss, .int .i64 k.a.rat, .int .i64 k.a.mat, .string k.a.c, .int .i64 k.p]
theorem kcs_len (k : Kn) : (kcs k).length = 6 := rfl
theorem kcs_one (k : Kn) : ∀ u ∈ kcs k, u.oneCell' = true := by
  intro u hu
  unfold kcs at hu
  simp at hu
  rcases hu with rfl | rfl | rfl | rfl | rfl | rfl <;> rfl
abbrev kcells := rcs kcs
/-- a book in memory -/
structure Bk (B : Nat) (w : World) (q : Nat) (v : Value) (L : List Kn) : Prop where
  b : Bx w q #[.bool true, v] 97
  o : w.ownsRow B 101 6 v L.length (kcells L)
  q : B ≤ q
theorem Bk.below {B : Nat} {w w' : World} {q : Nat} {v : Value} {L : List Kn} (h : Bk B w q v L) (hb : Below w.heap.size w w') : Bk B w' q v L := ⟨h.b.below hb h.b.lt, own_below h.o hb, h.q⟩
theorem Bk.read {B : Nat} {w : World} {q : Nat} {v : Value} {L : List Kn} (h : Bk B w q v L) : ∃ a cap, v = .slice a L.length cap ∧ L.length ≤ cap ∧ Rw 6 kcs w a L := own_rw kcs_len h.o rfl
theorem xclone (s : ByteArray) (hs : s.size ≤ 281474976710656) (w : World) : Calls Try.prog 70 #[.string s] w fun e w' => e = .returned (.string s) ∧ Below w.heap.size w w' := by
  have H : Hid (∀ w, Calls Try.prog 95 #[.string s] w fun e w' => e = .returned (.string s) ∧ Below w.heap.size w w') := fun w => Try.stringslite_Clone s w hs
  clear hs
  go_enter Try.func70, Try.ntmps70
  go_wp2_with (go_at_call 95; refine (H.out _).mono ?_; rintro e w1 ⟨rfl, hb⟩)
  go_ret
  exact ⟨rfl, hb⟩
end Go.Proofs.Ytheikjjehidagaa.H5
