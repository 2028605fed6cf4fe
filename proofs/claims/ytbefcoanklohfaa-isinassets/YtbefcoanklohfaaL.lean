/- The law of assets. Condition: the number's text has at most 2 to the 47th bytes. -/
import Derived.Test.YtbefcoanklohfaaK
import Derived.WalkKit
import Derived.ProofKit
import Derived.Handy
import Derived.WalkLawsBesides
import Derived.WalkSpells
import Derived.BigQuiet
import Derived.BigCall
import Derived.Deep.QuietTactic
import Derived.Deep.Light
import Derived.Deep.OwnRows
import Derived.Laws.AppendOwnNone
import Derived.Laws.Strings3
import Derived.Laws.RangeAny
import Derived.Deep.RegionWith
import Derived.Lib.BitFns
import Derived.Lib.Walk
import Derived.Lib.Strings
import Derived.Lib.OthersKept
import Derived.Deep.CutBlock
import Derived.Deep.DeepCutAuto
import Derived.Deep.LoopGhost
import Derived.Deep.RegionHeld3
import Derived.Lib.SmallJoins
import Derived.Maps.AppendAt
import Derived.Laws.IdiomStrings
namespace Go.Proofs.Ytbefcoanklohfaa
open Go.RowKit
set_option linter.unusedVariables false
set_option linter.unusedSimpArgs false
theorem cell_kept {w w' : World} {p : Addr} {v : Value} (hb : Below w.heap.size w w') (h : w.cell? p = some v) : w'.cell? p = some v := (hb.cell (World.block_lt_of_cell? _ _ h)).trans h
theorem below_undrew {B : Nat} {a w : World} (h : Below B a.drew w) : Below B a w := ⟨h.os, h.tape, h.output, h.size, h.block⟩
theorem kept5 {w w' : World} {p1 p2 p3 p4 p5 : Addr} {v1 v2 v3 v4 v5 : Value} (hb : Below w.heap.size w w') (h : w.cell? p1 = some v1 ∧ w.cell? p2 = some v2 ∧ w.cell? p3 = some v3 ∧ w.cell? p4 = some v4 ∧ w.cell? p5 = some v5) :
    w'.cell? p1 = some v1 ∧ w'.cell? p2 = some v2 ∧ w'.cell? p3 = some v3 ∧ w'.cell? p4 = some v4 ∧ w'.cell? p5 = some v5 :=
  ⟨cell_kept hb h.1, cell_kept hb h.2.1, cell_kept hb h.2.2.1, cell_kept hb h.2.2.2.1, cell_kept hb h.2.2.2.2⟩
set_option maxHeartbeats 4000000 in
theorem lassets (s t c : ByteArray) (i r m : Int) (ht : t.size ≤ 9223372036854775807) (w : World) : Calls Try.prog 4 #[.string s, .agg #[.string t, .int .i64 i, .int .i64 r, .int .i64 m, .string c]] w fun e w' => e = .returned (.bool true) ∧ Below w.heap.size w w' := by
  have H1 : ∀ w, Hid (Calls Try.prog 11 #[.string s] w fun e w' => e = .returned (.bool (decide (Cur s.toList))) ∧ w = w') := fun w => xCur s w
  have H2 : ∀ w, Hid (Calls Try.prog 12 #[.string s] w fun e w' => e = .returned (.bool (decide (Cur s.toList))) ∧ w = w') := fun w => rCur s w
  have H3 : ∀ w, Hid (Calls Try.prog 13 #[.agg #[.string t, .int .i64 i, .int .i64 r, .int .i64 m, .string c]] w (NB (astE (chk t.data.toList) (Cur c.toList) i r m) w)) := fun w => xAsset t c i r m ht w
  have H4 : ∀ w, Hid (Calls Try.prog 14 #[.agg #[.string t, .int .i64 i, .int .i64 r, .int .i64 m, .string c]] w (NB (astE (chk t.data.toList) (Cur c.toList) i r m) w)) := fun w => rAsset t c i r m w
  have HB0 : Hid (Below w.heap.size w (w.alloc (.cells #[.string t, .int .i64 i, .int .i64 r, .int .i64 m, .string c] 32))) := below_box w _
  have hx : Bx (w.alloc (.cells #[.string t, .int .i64 i, .int .i64 r, .int .i64 m, .string c] 32)) w.heap.size t c i r m := Bx.new w t c i r m
  have c0 := hx.c0
  have c1 := hx.c1
  have c2 := hx.c2
  have c3 := hx.c3
  have c4 := hx.c4
  clear hx
  generalize decide (Cur s.toList) = g at *
  generalize astE (chk t.data.toList) (Cur c.toList) i r m = n at *
  go_enter Try.func4, Try.ntmps4
  go_wp2_with fail
  generalize w.alloc (.cells #[.string t, .int .i64 i, .int .i64 r, .int .i64 m, .string c] 32) = W at *
  go_region_held3 (fun w' => w'.cell? ⟨w.heap.size, 0, none⟩ = some (.string t) ∧ w'.cell? ⟨w.heap.size, 1, none⟩ = some (.int .i64 i) ∧ w'.cell? ⟨w.heap.size, 2, none⟩ = some (.int .i64 r) ∧ w'.cell? ⟨w.heap.size, 3, none⟩ = some (.int .i64 m) ∧ w'.cell? ⟨w.heap.size, 4, none⟩ = some (.string c))
    (first
      | go_keep
      | (exact kept5 hb6 ⟨c0, c1, c2, c3, c4⟩)
      | (exact kept5 hb6 (by assumption))
      | (exact kept5 hb7 (by assumption))
      | (exact kept5 hb8 (by assumption)))
    (first
      | (go_at_call 11; refine (H1 _).out.mono ?_; rintro e w5 ⟨rfl, rfl⟩)
      | (go_at_call 12; refine (H2 _).out.mono ?_; rintro e w5 ⟨rfl, rfl⟩)
      | (go_at_call 13; refine (H3 _).out.mono ?_; rintro e w6 ⟨rfl, hb6⟩)
      | (go_at_call 14; refine (H4 _).out.mono ?_; rintro e w7 ⟨rfl, hb7⟩)
      | (go_at_call 10; refine (awake _).mono ?_; rintro e w8 ⟨rfl, hb8⟩))
  have h6 : Below w.heap.size w w6 := HB0.out.trans ((below_undrew hb6).mono HB0.out.size)
  have h7 := h6.trans (hb7.mono h6.size)
  have HT : Hid (Below w.heap.size w w8) := h7.trans (hb8.mono h7.size)
  clear hb6 hb7 hb8 h6 h7 c0 c1 c2 c3 c4
  go_wp2_with fail
  go_ret
  exact ⟨rfl, HT.out⟩
end Go.Proofs.Ytbefcoanklohfaa
