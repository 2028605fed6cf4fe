/- layer 10: are two baskets the same -/
import Derived.Test.YtmjaijpikbdfkaaD
import Derived.WalkKit
import Derived.ProofKit
import Derived.Handy
import Derived.WalkLawsBesides
import Derived.WalkSpells
import Derived.BigQuiet
import Derived.BigCall
import Derived.Deep.QuietTactic
import Derived.Deep.Light
import Derived.Deep.OwnRows
import Derived.Laws.AppendOwnNone
import Derived.Laws.Strings3
import Derived.Laws.RangeAny
import Derived.Deep.RegionWith
import Derived.Lib.BitFns
import Derived.Lib.Walk
import Derived.Lib.Strings
import Derived.Lib.OthersKept
import Derived.Deep.CutBlock
import Derived.Deep.DeepCutAuto
import Derived.Deep.LoopGhost
import Derived.Deep.RegionHeld3
import Derived.Lib.SmallJoins
import Derived.Maps.AppendAt
import Derived.Laws.IdiomStrings
import Derived.Lib.AppendZeros
import Derived.Deep.WholeRow
import Derived.Laws.BitsAllLaws
import Derived.Lib.ConvBytes
import Derived.Deep.RegionLaw
import Derived.Maps.OwnSet
import Derived.Maps.OwnOps
import Derived.Maps.RangeWalk
import Derived.Maps.Ext
import Derived.DeepKeys4
import Derived.Laws.StructEq
import Derived.Deep.MidRow
import Derived.Lib.Bytealg
import Derived.Lib.Overlaps
import Derived.Lib.AppendZerosOnto
import Derived.Laws.MakeOwn
namespace Go.Proofs.Ytmjaijpikbdfkaa
open Go.RowKit
set_option linter.unusedVariables false
set_option linter.unusedSimpArgs false
set_option maxRecDepth 20000
theorem BB.mk {b c : Bool} {w w' : World} (h : c = b) (hb : Below w.heap.size w w') : BB b w (.returned (.bool c)) w' := ⟨by rw [h], hb⟩
set_option maxHeartbeats 4000000 in
theorem rsame (xs ys : List Int) (a b : Option Addr) (c d : Nat) (w : World) (B : Nat) (hB : B ≤ w.heap.size) (hx : Ins B w a xs) (hy : Ins B w b ys) (he : xs = ys) (hl : xs.length ≤ 1000000000000) : Calls Try.prog 46 #[.slice a xs.length c, .slice b ys.length d] w (BB true w) := by
  subst he
  have HX : Hid (Ins B w a xs) := hx
  have HY : Hid (Ins B w b xs) := hy
  clear hx hy
  go_enter Try.func46, Try.ntmps46
  go_wp2_with fail
  go_loopw [5] (fun i wr => ∃ (k : Nat), i = .int .i64 k ∧ k ≤ xs.length ∧ Hid (Below w.heap.size w wr)) (fun i _ => xs.length - (Lib.intOf i).toNat)
  case atStart => exact ⟨0, rfl, Nat.zero_le _, Below.refl _ _⟩
  case round =>
    obtain ⟨k, rfl, hk, HBw⟩ := hrel
    by_cases hkn : k < xs.length
    · have hkz : (k : Int) < (xs.length : Int) := by omega
      obtain ⟨b1, off1, rfl, hbl1, hce1⟩ := HX.out (by omega)
      obtain ⟨b2, off2, rfl, hbl2, hce2⟩ := HY.out (by omega)
      have hc1 : wr.cell? ⟨b1, off1 + k, none⟩ = some (.int .i64 xs[k]) := (HBw.out.cell (by exact Nat.lt_of_lt_of_le hbl1 hB)).trans (hce1 k hkn)
      have hc2 : wr.cell? ⟨b2, off2 + k, none⟩ = some (.int .i64 xs[k]) := (HBw.out.cell (by exact Nat.lt_of_lt_of_le hbl2 hB)).trans (hce2 k hkn)
      generalize xs[k] = n at *
      clear hce1 hce2
      go_wp2_with fail
      go_quiet (fail)
      go_wp2_with fail
      exact ⟨⟨k + 1, by go_num, by omega, bdrew HBw.out _⟩, by simp [Lib.intOf]; omega⟩
    · have hkz : ¬ (k : Int) < (xs.length : Int) := by omega
      go_wp2_with fail
      go_ret
      exact BB.mk rfl HBw.out

set_option maxHeartbeats 4000000 in
theorem yBaskets (b : Bk) (ca1 ca2 ba1 ba2 : Option Addr) (cc1 cc2 bc1 bc2 : Nat) (w : World) (hC1 : Cts w.heap.size w ca1 b.cuts) (hC2 : Cts w.heap.size w ca2 b.cuts) (hI1 : Ins w.heap.size w ba1 b.bar) (hI2 : Ins w.heap.size w ba2 b.bar) (hlc : b.cuts.length ≤ 1000000000000) (hlb : b.bar.length ≤ 1000000000000) : Calls Try.prog 23 #[.agg #[.int .i64 b.id, .int .i64 b.ver, .string ⟨b.cur.toArray⟩, .int .i64 b.rat, .int .i64 b.least, .int .i64 b.most, .slice ca1 b.cuts.length cc1, .int .i64 b.iss, .int .i64 b.ass, .slice ba1 b.bar.length bc1], .agg #[.int .i64 b.id, .int .i64 b.ver, .string ⟨b.cur.toArray⟩, .int .i64 b.rat, .int .i64 b.least, .int .i64 b.most, .slice ca2 b.cuts.length cc2, .int .i64 b.iss, .int .i64 b.ass, .slice ba2 b.bar.length bc2]] w (KP (.bool true) w) := by
  have HB : Hid (Below w.heap.size w ((w.alloc (.cells #[.int .i64 b.id, .int .i64 b.ver, .string ⟨b.cur.toArray⟩, .int .i64 b.rat, .int .i64 b.least, .int .i64 b.most, .slice ca1 b.cuts.length cc1, .int .i64 b.iss, .int .i64 b.ass, .slice ba1 b.bar.length bc1] 25)).alloc (.cells #[.int .i64 b.id, .int .i64 b.ver, .string ⟨b.cur.toArray⟩, .int .i64 b.rat, .int .i64 b.least, .int .i64 b.most, .slice ca2 b.cuts.length cc2, .int .i64 b.iss, .int .i64 b.ass, .slice ba2 b.bar.length bc2] 25))) := bt (below_a w _) (below_a _ _)
  have HX : Hid (Bx ((w.alloc (.cells #[.int .i64 b.id, .int .i64 b.ver, .string ⟨b.cur.toArray⟩, .int .i64 b.rat, .int .i64 b.least, .int .i64 b.most, .slice ca1 b.cuts.length cc1, .int .i64 b.iss, .int .i64 b.ass, .slice ba1 b.bar.length bc1] 25)).alloc (.cells #[.int .i64 b.id, .int .i64 b.ver, .string ⟨b.cur.toArray⟩, .int .i64 b.rat, .int .i64 b.least, .int .i64 b.most, .slice ca2 b.cuts.length cc2, .int .i64 b.iss, .int .i64 b.ass, .slice ba2 b.bar.length bc2] 25)) w.heap.size #[.int .i64 b.id, .int .i64 b.ver, .string ⟨b.cur.toArray⟩, .int .i64 b.rat, .int .i64 b.least, .int .i64 b.most, .slice ca1 b.cuts.length cc1, .int .i64 b.iss, .int .i64 b.ass, .slice ba1 b.bar.length bc1] 25) := (Bx.new w _ _).keep (below_a _ _)
  have HY : Hid (Bx ((w.alloc (.cells #[.int .i64 b.id, .int .i64 b.ver, .string ⟨b.cur.toArray⟩, .int .i64 b.rat, .int .i64 b.least, .int .i64 b.most, .slice ca1 b.cuts.length cc1, .int .i64 b.iss, .int .i64 b.ass, .slice ba1 b.bar.length bc1] 25)).alloc (.cells #[.int .i64 b.id, .int .i64 b.ver, .string ⟨b.cur.toArray⟩, .int .i64 b.rat, .int .i64 b.least, .int .i64 b.most, .slice ca2 b.cuts.length cc2, .int .i64 b.iss, .int .i64 b.ass, .slice ba2 b.bar.length bc2] 25)) (w.alloc (.cells #[.int .i64 b.id, .int .i64 b.ver, .string ⟨b.cur.toArray⟩, .int .i64 b.rat, .int .i64 b.least, .int .i64 b.most, .slice ca1 b.cuts.length cc1, .int .i64 b.iss, .int .i64 b.ass, .slice ba1 b.bar.length bc1] 25)).heap.size #[.int .i64 b.id, .int .i64 b.ver, .string ⟨b.cur.toArray⟩, .int .i64 b.rat, .int .i64 b.least, .int .i64 b.most, .slice ca2 b.cuts.length cc2, .int .i64 b.iss, .int .i64 b.ass, .slice ba2 b.bar.length bc2] 25) := Bx.new _ _ _
  have HC1 : Hid (Cts w.heap.size w ca1 b.cuts) := hC1
  have HC2 : Hid (Cts w.heap.size w ca2 b.cuts) := hC2
  have HI1 : Hid (Ins w.heap.size ((w.alloc (.cells #[.int .i64 b.id, .int .i64 b.ver, .string ⟨b.cur.toArray⟩, .int .i64 b.rat, .int .i64 b.least, .int .i64 b.most, .slice ca1 b.cuts.length cc1, .int .i64 b.iss, .int .i64 b.ass, .slice ba1 b.bar.length bc1] 25)).alloc (.cells #[.int .i64 b.id, .int .i64 b.ver, .string ⟨b.cur.toArray⟩, .int .i64 b.rat, .int .i64 b.least, .int .i64 b.most, .slice ca2 b.cuts.length cc2, .int .i64 b.iss, .int .i64 b.ass, .slice ba2 b.bar.length bc2] 25)) ba1 b.bar) := hI1.keep HB.out
  have HI2 : Hid (Ins w.heap.size ((w.alloc (.cells #[.int .i64 b.id, .int .i64 b.ver, .string ⟨b.cur.toArray⟩, .int .i64 b.rat, .int .i64 b.least, .int .i64 b.most, .slice ca1 b.cuts.length cc1, .int .i64 b.iss, .int .i64 b.ass, .slice ba1 b.bar.length bc1] 25)).alloc (.cells #[.int .i64 b.id, .int .i64 b.ver, .string ⟨b.cur.toArray⟩, .int .i64 b.rat, .int .i64 b.least, .int .i64 b.most, .slice ca2 b.cuts.length cc2, .int .i64 b.iss, .int .i64 b.ass, .slice ba2 b.bar.length bc2] 25)) ba2 b.bar) := hI2.keep HB.out
  have HS : Hid (∀ (W : World), w.heap.size ≤ W.heap.size → Ins w.heap.size W ba1 b.bar → Ins w.heap.size W ba2 b.bar → Calls Try.prog 46 #[.slice ba1 b.bar.length bc1, .slice ba2 b.bar.length bc2] W (BB true W)) := fun W hw h1 h2 => rsame b.bar b.bar ba1 ba2 bc1 bc2 W w.heap.size hw h1 h2 rfl hlb
  have hz : (w.alloc (.cells #[.int .i64 b.id, .int .i64 b.ver, .string ⟨b.cur.toArray⟩, .int .i64 b.rat, .int .i64 b.least, .int .i64 b.most, .slice ca1 b.cuts.length cc1, .int .i64 b.iss, .int .i64 b.ass, .slice ba1 b.bar.length bc1] 25)).heap.size = w.heap.size + 1 := by simp
  clear hC1 hC2 hI1 hI2
  generalize (⟨b.cur.toArray⟩ : ByteArray) = cur at *
  go_enter Try.func23, Try.ntmps23
  go_wp2_with fail
  generalize ((w.alloc (.cells #[.int .i64 b.id, .int .i64 b.ver, .string cur, .int .i64 b.rat, .int .i64 b.least, .int .i64 b.most, .slice ca1 b.cuts.length cc1, .int .i64 b.iss, .int .i64 b.ass, .slice ba1 b.bar.length bc1] 25)).alloc (.cells #[.int .i64 b.id, .int .i64 b.ver, .string cur, .int .i64 b.rat, .int .i64 b.least, .int .i64 b.most, .slice ca2 b.cuts.length cc2, .int .i64 b.iss, .int .i64 b.ass, .slice ba2 b.bar.length bc2] 25)) = w2 at *
  rw [hz] at HY
  have hB2 : w.heap.size ≤ w2.heap.size := HB.out.size
  refine (HS.out _ hB2 HI1.out HI2.out).mono ?_
  rintro e w3 ⟨rfl, hb⟩
  have HB3 : Hid (Below w.heap.size w w3) := bt HB.out hb
  have HX3 : Hid (Bx w3 w.heap.size #[.int .i64 b.id, .int .i64 b.ver, .string cur, .int .i64 b.rat, .int .i64 b.least, .int .i64 b.most, .slice ca1 b.cuts.length cc1, .int .i64 b.iss, .int .i64 b.ass, .slice ba1 b.bar.length bc1] 25) := HX.out.keep hb
  have HY3 : Hid (Bx w3 (w.heap.size + 1) #[.int .i64 b.id, .int .i64 b.ver, .string cur, .int .i64 b.rat, .int .i64 b.least, .int .i64 b.most, .slice ca2 b.cuts.length cc2, .int .i64 b.iss, .int .i64 b.ass, .slice ba2 b.bar.length bc2] 25) := HY.out.keep hb
  clear hb HB HX HY HS HI1 HI2 hz
  go_wp2_with fail
  go_loopw [5] (fun i wr => ∃ (k : Nat), i = .int .i64 k ∧ k ≤ b.cuts.length ∧ Hid (Below w.heap.size w wr) ∧ Hid (wr.cell? ⟨w.heap.size, 6, none⟩ = some (.slice ca1 b.cuts.length cc1) ∧ wr.cell? ⟨w.heap.size + 1, 6, none⟩ = some (.slice ca2 b.cuts.length cc2))) (fun i _ => b.cuts.length - (Lib.intOf i).toNat)
  case atStart => exact ⟨0, rfl, Nat.zero_le _, HB3, HX3.out.cell 6, HY3.out.cell 6⟩
  case round =>
    clear HB3 HX3 HY3
    obtain ⟨k, rfl, hk, HBw, HK⟩ := hrel
    obtain ⟨k1, k2⟩ := HK.out
    by_cases hkn : k < b.cuts.length
    · have hkz : (k : Int) < (b.cuts.length : Int) := by omega
      obtain ⟨b1, off1, rfl, hbl1, hce1⟩ := HC1.out (by omega)
      obtain ⟨b2, off2, rfl, hbl2, hce2⟩ := HC2.out (by omega)
      have hc1 : wr.cell? ⟨b1, off1 + k * 3, none⟩ = some (.int .i64 b.cuts[k].d) := (HBw.out.cell (by exact hbl1)).trans (hce1 k hkn).1
      have hd1 : wr.cell? ⟨b1, off1 + k * 3 + 1, none⟩ = some (.int .i64 b.cuts[k].r) := (HBw.out.cell (by exact hbl1)).trans (hce1 k hkn).2.1
      have he1 : wr.cell? ⟨b1, off1 + k * 3 + 2, none⟩ = some (.int .i64 b.cuts[k].c) := (HBw.out.cell (by exact hbl1)).trans (hce1 k hkn).2.2
      have hc2 : wr.cell? ⟨b2, off2 + k * 3, none⟩ = some (.int .i64 b.cuts[k].d) := (HBw.out.cell (by exact hbl2)).trans (hce2 k hkn).1
      have hd2 : wr.cell? ⟨b2, off2 + k * 3 + 1, none⟩ = some (.int .i64 b.cuts[k].r) := (HBw.out.cell (by exact hbl2)).trans (hce2 k hkn).2.1
      have he2 : wr.cell? ⟨b2, off2 + k * 3 + 2, none⟩ = some (.int .i64 b.cuts[k].c) := (HBw.out.cell (by exact hbl2)).trans (hce2 k hkn).2.2
      generalize b.cuts[k].d = x at *
      generalize b.cuts[k].r = y at *
      generalize b.cuts[k].c = z at *
      clear hce1 hce2
      go_wp2_with fail
      go_quiet (fail)
      go_wp2_with fail
      exact ⟨⟨k + 1, by go_num, by omega, bdrew HBw.out _, HK⟩, by simp [Lib.intOf]; omega⟩
    · have hkz : ¬ (k : Int) < (b.cuts.length : Int) := by omega
      go_wp2_with fail
      go_ret
      exact KP.mk rfl HBw.out
end Go.Proofs.Ytmjaijpikbdfkaa
