/- Layer 10: the law Baskets. -/
import Derived.Test.YtdmlgheajblcdaaGreatK14
import Derived.WalkKit
import Derived.ProofKit
import Derived.Handy
import Derived.WalkLawsBesides
import Derived.WalkSpells
import Derived.BigQuiet
import Derived.BigCall
import Derived.Deep.QuietTactic
import Derived.Deep.Light
import Derived.Deep.OwnRows
import Derived.Laws.AppendOwnNone
import Derived.Laws.Strings3
import Derived.Laws.RangeAny
import Derived.Deep.RegionWith
import Derived.Lib.BitFns
import Derived.Lib.Walk
import Derived.Lib.Strings
import Derived.Lib.OthersKept
import Derived.Deep.CutBlock
import Derived.Deep.DeepCutAuto
import Derived.Deep.LoopGhost
import Derived.Deep.RegionHeld3
import Derived.Lib.SmallJoins
import Derived.Maps.AppendAt
import Derived.Laws.IdiomStrings
import Derived.Lib.AppendZeros
import Derived.Deep.WholeRow
import Derived.Laws.BitsAllLaws
import Derived.Lib.ConvBytes
import Derived.Deep.RegionLaw
namespace Go.Proofs.YtdmlgheajblcdaaGreat
open Go.RowKit
set_option linter.unusedVariables false
set_option linter.unusedSimpArgs false
set_option maxRecDepth 20000
set_option maxHeartbeats 4000000 in
theorem lBaskets (b : Bk) (ca ba : Option Addr) (cc bc : Nat) (w : World) (hC : Cts w.heap.size w ca b.cuts) (hI : Ins w.heap.size w ba b.bar) (hlc : b.cuts.length ≤ 9223372036854775807) (hlb : b.bar.length ≤ 9223372036854775807) : Calls Tryz.prog 4 #[.agg #[.int .i64 b.id, .int .i64 b.ver, .string ⟨b.cur.toArray⟩, .int .i64 b.rat, .int .i64 b.least, .int .i64 b.most, .slice ca b.cuts.length cc, .int .i64 b.iss, .int .i64 b.ass, .slice ba b.bar.length bc]] w (KP (.bool true) w) := by
  have HX : Hid (∀ W, Below w.heap.size w W → Calls Tryz.prog 16 #[.agg #[.int .i64 b.id, .int .i64 b.ver, .string ⟨b.cur.toArray⟩, .int .i64 b.rat, .int .i64 b.least, .int .i64 b.most, .slice ca b.cuts.length cc, .int .i64 b.iss, .int .i64 b.ass, .slice ba b.bar.length bc]] W (KP (.int .i64 (bkE C0 b : Nat)) W)) := fun W hb => xBasket b ca ba cc bc W ((hC.keep hb).mono hb.size) ((hI.keep hb).mono hb.size) hlc hlb _ rfl
  have HR : Hid (∀ W, Below w.heap.size w W → Calls Tryz.prog 17 #[.agg #[.int .i64 b.id, .int .i64 b.ver, .string ⟨b.cur.toArray⟩, .int .i64 b.rat, .int .i64 b.least, .int .i64 b.most, .slice ca b.cuts.length cc, .int .i64 b.iss, .int .i64 b.ass, .slice ba b.bar.length bc]] W (KP (.int .i64 (bkE C0 b : Nat)) W)) := fun W hb => rBasket b ca ba cc bc W ((hC.keep hb).mono hb.size) ((hI.keep hb).mono hb.size) hlc hlb _ rfl
  have HB : Hid (Below w.heap.size w (w.alloc (.cells #[.int .i64 b.id, .int .i64 b.ver, .string ⟨b.cur.toArray⟩, .int .i64 b.rat, .int .i64 b.least, .int .i64 b.most, .slice ca b.cuts.length cc, .int .i64 b.iss, .int .i64 b.ass, .slice ba b.bar.length bc] 27))) := below_a w _
  have HBx : Hid (Bx (w.alloc (.cells #[.int .i64 b.id, .int .i64 b.ver, .string ⟨b.cur.toArray⟩, .int .i64 b.rat, .int .i64 b.least, .int .i64 b.most, .slice ca b.cuts.length cc, .int .i64 b.iss, .int .i64 b.ass, .slice ba b.bar.length bc] 27)) w.heap.size #[.int .i64 b.id, .int .i64 b.ver, .string ⟨b.cur.toArray⟩, .int .i64 b.rat, .int .i64 b.least, .int .i64 b.most, .slice ca b.cuts.length cc, .int .i64 b.iss, .int .i64 b.ass, .slice ba b.bar.length bc] 27) := Bx.new _ _ _
  generalize bkE C0 b = g at *
  clear hC hI
  go_enter Tryz.func4, Tryz.ntmps4
  go_wp2_with fail
  generalize w.alloc (.cells #[.int .i64 b.id, .int .i64 b.ver, .string ⟨b.cur.toArray⟩, .int .i64 b.rat, .int .i64 b.least, .int .i64 b.most, .slice ca b.cuts.length cc, .int .i64 b.iss, .int .i64 b.ass, .slice ba b.bar.length bc] 27) = w1 at *
  have c0 : w1.cell? ⟨w.heap.size, 0, none⟩ = some (.int .i64 b.id) := HBx.out.cell 0
  have c1 : w1.cell? ⟨w.heap.size, 1, none⟩ = some (.int .i64 b.ver) := HBx.out.cell 1
  have c2 : w1.cell? ⟨w.heap.size, 2, none⟩ = some (.string ⟨b.cur.toArray⟩) := HBx.out.cell 2
  have c3 : w1.cell? ⟨w.heap.size, 3, none⟩ = some (.int .i64 b.rat) := HBx.out.cell 3
  have c4 : w1.cell? ⟨w.heap.size, 4, none⟩ = some (.int .i64 b.least) := HBx.out.cell 4
  have c5 : w1.cell? ⟨w.heap.size, 5, none⟩ = some (.int .i64 b.most) := HBx.out.cell 5
  have c6 : w1.cell? ⟨w.heap.size, 6, none⟩ = some (.slice ca b.cuts.length cc) := HBx.out.cell 6
  have c7 : w1.cell? ⟨w.heap.size, 7, none⟩ = some (.int .i64 b.iss) := HBx.out.cell 7
  have c8 : w1.cell? ⟨w.heap.size, 8, none⟩ = some (.int .i64 b.ass) := HBx.out.cell 8
  have c9 : w1.cell? ⟨w.heap.size, 9, none⟩ = some (.slice ba b.bar.length bc) := HBx.out.cell 9
  have HK : Hid (∀ (n : Nat) (W : World), Below (w1.drewN n).heap.size (w1.drewN n) W → W.cell? ⟨w.heap.size, 0, none⟩ = some (.int .i64 b.id) ∧ W.cell? ⟨w.heap.size, 1, none⟩ = some (.int .i64 b.ver) ∧ W.cell? ⟨w.heap.size, 2, none⟩ = some (.string ⟨b.cur.toArray⟩) ∧ W.cell? ⟨w.heap.size, 3, none⟩ = some (.int .i64 b.rat) ∧ W.cell? ⟨w.heap.size, 4, none⟩ = some (.int .i64 b.least) ∧ W.cell? ⟨w.heap.size, 5, none⟩ = some (.int .i64 b.most) ∧ W.cell? ⟨w.heap.size, 6, none⟩ = some (.slice ca b.cuts.length cc) ∧ W.cell? ⟨w.heap.size, 7, none⟩ = some (.int .i64 b.iss) ∧ W.cell? ⟨w.heap.size, 8, none⟩ = some (.int .i64 b.ass) ∧ W.cell? ⟨w.heap.size, 9, none⟩ = some (.slice ba b.bar.length bc)) := fun n W hb => by have h := (HBx.out.drewN n).keep hb; exact ⟨h.cell 0, h.cell 1, h.cell 2, h.cell 3, h.cell 4, h.cell 5, h.cell 6, h.cell 7, h.cell 8, h.cell 9⟩
  have HL : Hid (∀ (n : Nat) (W : World), Below (w1.drewN n).heap.size (w1.drewN n) W → Below w.heap.size w W) := fun n W hb => bt (bdrw HB.out n) hb
  have HB0 : Hid (∀ n, Below w.heap.size w (w1.drewN n)) := fun n => bdrw HB.out n
  clear HBx HB
  go_region_held3 (fun w' => w'.cell? ⟨w.heap.size, 0, none⟩ = some (.int .i64 b.id) ∧ w'.cell? ⟨w.heap.size, 1, none⟩ = some (.int .i64 b.ver) ∧ w'.cell? ⟨w.heap.size, 2, none⟩ = some (.string ⟨b.cur.toArray⟩) ∧ w'.cell? ⟨w.heap.size, 3, none⟩ = some (.int .i64 b.rat) ∧ w'.cell? ⟨w.heap.size, 4, none⟩ = some (.int .i64 b.least) ∧ w'.cell? ⟨w.heap.size, 5, none⟩ = some (.int .i64 b.most) ∧ w'.cell? ⟨w.heap.size, 6, none⟩ = some (.slice ca b.cuts.length cc) ∧ w'.cell? ⟨w.heap.size, 7, none⟩ = some (.int .i64 b.iss) ∧ w'.cell? ⟨w.heap.size, 8, none⟩ = some (.int .i64 b.ass) ∧ w'.cell? ⟨w.heap.size, 9, none⟩ = some (.slice ba b.bar.length bc)) (first | go_keep | exact HK.out _ _ (bt (bt hb2.out hb3.out) hb4.out) | exact HK.out _ _ (bt hb2.out hb3.out) | exact HK.out _ _ hb2.out) (first | (go_at_call 16; go_must (refine (HX.out _ (HB0.out _)).mono ?_; rintro e w2 ⟨rfl, hb2⟩)) | (go_at_call 17; go_must (refine (HR.out _ (HL.out _ _ hb2.out)).mono ?_; rintro e w3 ⟨rfl, hb3⟩)) | (go_at_call 10; go_must (refine (awake _).mono ?_; rintro e w4 ⟨rfl, hb4⟩)))
  have HB4 : Hid (Below w.heap.size w w4) := HL.out _ _ (bt (bt hb2.out hb3.out) hb4.out)
  clear hb2 hb3 hb4 HK HL HB0
  go_wp2_with fail
  go_ret
  exact KP.mk rfl HB4.out
end Go.Proofs.YtdmlgheajblcdaaGreat
