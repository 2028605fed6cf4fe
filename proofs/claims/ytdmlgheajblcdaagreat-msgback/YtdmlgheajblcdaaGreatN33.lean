/- Layer 10: messages read, kind by kind. -/
import Derived.Test.YtdmlgheajblcdaaGreatN32
import Derived.Test.YtdmlgheajblcdaaGreatK13
import Derived.WalkKit
import Derived.ProofKit
import Derived.Handy
import Derived.WalkLawsBesides
import Derived.WalkSpells
import Derived.BigQuiet
import Derived.BigCall
import Derived.Deep.QuietTactic
import Derived.Deep.Light
import Derived.Deep.OwnRows
import Derived.Laws.AppendOwnNone
import Derived.Laws.Strings3
import Derived.Laws.RangeAny
import Derived.Deep.RegionWith
import Derived.Lib.BitFns
import Derived.Lib.Walk
import Derived.Lib.Strings
import Derived.Lib.OthersKept
import Derived.Deep.CutBlock
import Derived.Deep.DeepCutAuto
import Derived.Deep.LoopGhost
import Derived.Deep.RegionHeld3
import Derived.Lib.SmallJoins
import Derived.Maps.AppendAt
import Derived.Laws.IdiomStrings
import Derived.Lib.AppendZeros
import Derived.Deep.WholeRow
import Derived.Laws.BitsAllLaws
import Derived.Lib.ConvBytes
import Derived.Deep.RegionLaw
namespace Go.Proofs.YtdmlgheajblcdaaGreat
open Go.RowKit
set_option linter.unusedVariables false
set_option linter.unusedSimpArgs false
set_option maxRecDepth 100000
set_option maxHeartbeats 8000000 in
theorem msg1 {q : Nat} {r r1 r2 : Rd} {a : Int} {b : List UInt8} (h1 : rInt r = (r1, a)) (h2 : rText r1 160 = (r2, b)) (w : World) (hR : Rm w q r) (hs1 : r1.s.length ≤ 281474976710656) : Calls Tryz.prog 56 #[.agg #[.pointer (some ⟨q, 0, none⟩)], .int .i64 1] w (MsP q r2 (fun W v => v = .iface 76 (.agg #[.int .i64 a, .string ⟨b.toArray⟩])) w) := by
  have HX0 : Hid (Bx (w.alloc (.cells #[.pointer (some ⟨q, 0, none⟩)] 133)) w.heap.size #[.pointer (some ⟨q, 0, none⟩)] 133) := Bx.new _ _ _
  have HR0 : Hid (Rm (w.alloc (.cells #[.pointer (some ⟨q, 0, none⟩)] 133)) q r) := hR.keep (below_a _ _)
  have HB0 : Hid (Bt q w (w.alloc (.cells #[.pointer (some ⟨q, 0, none⟩)] 133))) := Bt.of_below (below_a w _)
  have hdq : w.heap.size ≠ q := Nat.ne_of_gt hR.lt
  have hqs : q < w.heap.size := hR.lt
  clear hR
  go_enter Tryz.func56, Tryz.ntmps56
  go_upto_region 1 with fail
  generalize (w.alloc (.cells #[.pointer (some ⟨q, 0, none⟩)] 133)) = w1 at *
  go_wp2_with fail
  refine wp_region_held (S := fun W => Bx W w.heap.size #[.pointer (some ⟨q, 0, none⟩)] 133 ∧ Bt q w W) (by kernel_rfl) ?_
  change wpAnyH _ _ _ _ _ 9 #[false, false, false, false, false, false, false, false, false] _ w1.drew
  have hS0 : Bx w1.drew w.heap.size #[.pointer (some ⟨q, 0, none⟩)] 133 ∧ Bt q w w1.drew := ⟨HX0.out, HB0.out.drewN 1⟩
  have hR0 : Rm w1.drew q r := HR0.out.drewN 1
  clear HX0 HB0 HR0
  obtain ⟨v0, hv0⟩ : ∃ v, v = w1.drew := ⟨_, rfl⟩
  rw [← hv0] at hS0 hR0 ⊢
  clear hv0
  refine takeR (fuel := 8) (i := 0) (v := .pointer (some ⟨w.heap.size, 0, none⟩)) rfl (by kernel_rfl) (by kernel_rfl) (by kernel_rfl) (fun _ _ _ h => h) (Or.inl ⟨rfl, fun W hW => by go_simp⟩) hS0 ?_
  simp only [Act.put, List.setIfInBounds_toArray, List.set_cons_zero, List.set_cons_succ]
  refine takeR (fuel := 7) (i := 1) (v := .pointer (some ⟨q, 0, none⟩)) rfl (by kernel_rfl) (by kernel_rfl) (by kernel_rfl) (fun _ _ _ h => h) (Or.inl ⟨rfl, fun W hW => by have cj := (hW.1.cell 0 : W.cell? ⟨w.heap.size, 0, none⟩ = some (.pointer (some ⟨q, 0, none⟩))); go_simp⟩) hS0 ?_
  simp only [Act.put, List.setIfInBounds_toArray, List.set_cons_zero, List.set_cons_succ]
  refine takeR (fuel := 6) (i := 3) (v := .pointer (some ⟨w.heap.size, 0, none⟩)) rfl (by kernel_rfl) (by kernel_rfl) (by kernel_rfl) (fun _ _ _ h => h) (Or.inl ⟨rfl, fun W hW => by go_simp⟩) hS0 ?_
  simp only [Act.put, List.setIfInBounds_toArray, List.set_cons_zero, List.set_cons_succ]
  refine takeR (fuel := 5) (i := 4) (v := .pointer (some ⟨q, 0, none⟩)) rfl (by kernel_rfl) (by kernel_rfl) (by kernel_rfl) (fun _ _ _ h => h) (Or.inl ⟨rfl, fun W hW => by have cj := (hW.1.cell 0 : W.cell? ⟨w.heap.size, 0, none⟩ = some (.pointer (some ⟨q, 0, none⟩))); go_simp⟩) hS0 ?_
  simp only [Act.put, List.setIfInBounds_toArray, List.set_cons_zero, List.set_cons_succ]
  refine consR (fuel := 4) (i := 2) rfl (by kernel_rfl) (fun K hK => ?_)
  rw [if_pos (by rfl)]
  go_simp
  refine (cInt h1 _ hR0).mono ?_
  rintro e u1 ⟨rfl, HR1, hC1⟩
  refine hK.out _ _ ⟨hS0.1.bt hC1.out hdq, hS0.2.trans hC1.out⟩ (fun hS1 => ?_)
  clear hK
  try simp only [Act.put, List.setIfInBounds_toArray, List.set_cons_zero, List.set_cons_succ]
  have hR1 := HR1.out
  clear hS0 hR0 HR1
  refine consR (fuel := 3) (i := 5) rfl (by kernel_rfl) (fun K hK => ?_)
  rw [if_pos (by rfl)]
  go_simp
  refine (cText ⟨by decide, by decide⟩ h2 _ hR1 hs1).mono ?_
  rintro e u2 ⟨rfl, HR2, hC2⟩
  refine hK.out _ _ ⟨hS1.1.bt hC2.out hdq, hS1.2.trans hC2.out⟩ (fun hS2 => ?_)
  clear hK
  try simp only [Act.put, List.setIfInBounds_toArray, List.set_cons_zero, List.set_cons_succ]
  have hR2 := HR2.out
  clear hS1 hR1 HR2
  refine takeR (fuel := 2) (i := 6) (v := .agg #[.int .i64 a, .string ⟨b.toArray⟩]) rfl (by kernel_rfl) (by kernel_rfl) (by kernel_rfl) (fun _ _ _ h => h) (Or.inl ⟨rfl, fun W hW => by go_simp⟩) hS2 ?_
  simp only [Act.put, List.setIfInBounds_toArray, List.set_cons_zero, List.set_cons_succ]
  refine takeR (fuel := 1) (i := 7) (v := .iface 76 (.agg #[.int .i64 a, .string ⟨b.toArray⟩])) rfl (by kernel_rfl) (by kernel_rfl) (by kernel_rfl) (fun _ _ _ h => h) (Or.inl ⟨rfl, fun W hW => by go_simp⟩) hS2 ?_
  simp only [Act.put, List.setIfInBounds_toArray, List.set_cons_zero, List.set_cons_succ]
  refine takeR (fuel := 0) (i := 8) (v := .iface 76 (.agg #[.int .i64 a, .string ⟨b.toArray⟩])) rfl (by kernel_rfl) (by kernel_rfl) (by kernel_rfl) (fun _ _ _ h => h) (Or.inl ⟨rfl, fun _ _ => rfl⟩) hS2 ?_
  simp only [Act.put, List.setIfInBounds_toArray, List.set_cons_zero, List.set_cons_succ]
  refine wpAnyH_done (by kernel_rfl) ?_ _
  have HRz : Hid (Rm u2 q r2) := hR2
  have HBz : Hid (Bt q w u2) := hS2.2
  clear hS2 hR2
  go_wp2_with fail
  go_ret
  exact ⟨_, rfl, rfl, HRz, HBz⟩
set_option maxHeartbeats 8000000 in
theorem msg2 {q : Nat} {r r1 r2 r3 r4 r5 : Rd} {a : List UInt8} {b c d : Int} {e0 : List UInt8} (h1 : rText r 12 = (r1, a)) (h2 : rInt r1 = (r2, b)) (h3 : rInt r2 = (r3, c)) (h4 : rInt r3 = (r4, d)) (h5 : rText r4 12 = (r5, e0)) (w : World) (hR : Rm w q r) (hs : r.s.length ≤ 281474976710656) (hs4 : r4.s.length ≤ 281474976710656) : Calls Tryz.prog 56 #[.agg #[.pointer (some ⟨q, 0, none⟩)], .int .i64 2] w (MsP q r5 (fun W v => v = .iface 78 (.agg #[.string ⟨a.toArray⟩, .int .i64 b, .int .i64 c, .int .i64 d, .string ⟨e0.toArray⟩])) w) := by
  have HX0 : Hid (Bx (w.alloc (.cells #[.pointer (some ⟨q, 0, none⟩)] 133)) w.heap.size #[.pointer (some ⟨q, 0, none⟩)] 133) := Bx.new _ _ _
  have HR0 : Hid (Rm (w.alloc (.cells #[.pointer (some ⟨q, 0, none⟩)] 133)) q r) := hR.keep (below_a _ _)
  have HB0 : Hid (Bt q w (w.alloc (.cells #[.pointer (some ⟨q, 0, none⟩)] 133))) := Bt.of_below (below_a w _)
  have hdq : w.heap.size ≠ q := Nat.ne_of_gt hR.lt
  have hqs : q < w.heap.size := hR.lt
  clear hR
  go_enter Tryz.func56, Tryz.ntmps56
  go_upto_region 1 with fail
  generalize (w.alloc (.cells #[.pointer (some ⟨q, 0, none⟩)] 133)) = w1 at *
  have hle : w.heap.size ≤ w1.heap.size := HB0.out.size
  have c0 : w1.cell? ⟨w.heap.size, 0, none⟩ = some (.pointer (some ⟨q, 0, none⟩)) := HX0.out.cell 0
  go_wp2_with fail
  refine (xassetR h1 h2 h3 h4 h5 _ HR0.out hs hs4).mono ?_
  rintro e w2 ⟨rfl, HR2, HB2⟩
  have HB3 : Hid (Bt q w w2) := HB0.out.trans HB2.out
  clear HB0 HB2 HR0 HX0 c0
  go_wp2_with fail
  go_ret
  exact ⟨_, rfl, rfl, HR2, HB3⟩
set_option maxHeartbeats 8000000 in
theorem msg3 {q : Nat} {r r1 r2 r3 r4 r5 r6 r7 r8 r9 r10 : Rd} {a0 a1 a2 a3 a4 a5 a6 : Int} {a7 : List UInt8} {N : Nat} {a9 : List Int} (h0 : rInt r = (r1, a0)) (h1 : rInt r1 = (r2, a1)) (h2 : rInt r2 = (r3, a2)) (h3 : rInt r3 = (r4, a3)) (h4 : rInt r4 = (r5, a4)) (h5 : rInt r5 = (r6, a5)) (h6 : rInt r6 = (r7, a6)) (h7 : rText r7 12 = (r8, a7)) (h8 : rCount r8 64 = (r9, N)) (h9 : rInts (pre rCut N r9).1 64 = (r10, a9)) (w : World) (hR : Rm w q r) (hs7 : r7.s.length ≤ 281474976710656) (hs8 : r8.s.length ≤ 281474976710656) (hs9 : (pre rCut N r9).1.s.length ≤ 1099511627776) : Calls Tryz.prog 56 #[.agg #[.pointer (some ⟨q, 0, none⟩)], .int .i64 3] w (MsP q r10 (fun W v => ∃ ca cc ba bc, v = .iface 80 (.agg #[.int .i64 a0, .int .i64 a1, .string ⟨a7.toArray⟩, .int .i64 a2, .int .i64 a3, .int .i64 a4, .slice ca (pre rCut N r9).2.length cc, .int .i64 a5, .int .i64 a6, .slice ba a9.length bc]) ∧ W.ownsRow w.heap.size 112 3 (.slice ca (pre rCut N r9).2.length cc) (pre rCut N r9).2.length (ccells (pre rCut N r9).2) ∧ W.ownsRow w.heap.size 3 1 (.slice ba a9.length bc) a9.length (icells a9)) w) := by
  have HX0 : Hid (Bx (w.alloc (.cells #[.pointer (some ⟨q, 0, none⟩)] 133)) w.heap.size #[.pointer (some ⟨q, 0, none⟩)] 133) := Bx.new _ _ _
  have HR0 : Hid (Rm (w.alloc (.cells #[.pointer (some ⟨q, 0, none⟩)] 133)) q r) := hR.keep (below_a _ _)
  have HB0 : Hid (Bt q w (w.alloc (.cells #[.pointer (some ⟨q, 0, none⟩)] 133))) := Bt.of_below (below_a w _)
  have hdq : w.heap.size ≠ q := Nat.ne_of_gt hR.lt
  have hqs : q < w.heap.size := hR.lt
  clear hR
  go_enter Tryz.func56, Tryz.ntmps56
  go_upto_region 1 with fail
  generalize (w.alloc (.cells #[.pointer (some ⟨q, 0, none⟩)] 133)) = w1 at *
  have hle : w.heap.size ≤ w1.heap.size := HB0.out.size
  have c0 : w1.cell? ⟨w.heap.size, 0, none⟩ = some (.pointer (some ⟨q, 0, none⟩)) := HX0.out.cell 0
  go_wp2_with fail
  refine (xbasketR h0 h1 h2 h3 h4 h5 h6 h7 h8 h9 _ HR0.out hs7 hs8 hs9).mono ?_
  rintro e w2 ⟨ca, cc, ba, bc, rfl, HO2, HO3, HR2, HB2⟩
  have HB3 : Hid (Bt q w w2) := HB0.out.trans HB2.out
  have HOa : Hid (w2.ownsRow w.heap.size 112 3 (.slice ca (pre rCut N r9).2.length cc) (pre rCut N r9).2.length (ccells (pre rCut N r9).2)) := own_mono HO2.out hle
  have HOb : Hid (w2.ownsRow w.heap.size 3 1 (.slice ba a9.length bc) a9.length (icells a9)) := own_mono HO3.out hle
  clear HB0 HB2 HR0 HX0 c0
  go_wp2_with fail
  go_ret
  exact ⟨_, rfl, ⟨ca, cc, ba, bc, rfl, HOa.out, HOb.out⟩, HR2, HB3⟩
set_option maxHeartbeats 8000000 in
theorem msg4 {q : Nat} {r r1 : Rd} {N : Nat} (h1 : rCount r 64 = (r1, N)) (w : World) (hR : Rm w q r) (hs : r.s.length ≤ 281474976710656) : Calls Tryz.prog 56 #[.agg #[.pointer (some ⟨q, 0, none⟩)], .int .i64 4] w (MsP q (pre rLot N r1).1 (fun W v => ∃ pa pc, v = .iface 82 (.agg #[.slice pa N pc]) ∧ W.ownsRow w.heap.size 128 2 (.slice pa N pc) N (lcells (pre rLot N r1).2)) w) := by
  have HX0 : Hid (Bx (w.alloc (.cells #[.pointer (some ⟨q, 0, none⟩)] 133)) w.heap.size #[.pointer (some ⟨q, 0, none⟩)] 133) := Bx.new _ _ _
  have HR0 : Hid (Rm (w.alloc (.cells #[.pointer (some ⟨q, 0, none⟩)] 133)) q r) := hR.keep (below_a _ _)
  have HB0 : Hid (Bt q w (w.alloc (.cells #[.pointer (some ⟨q, 0, none⟩)] 133))) := Bt.of_below (below_a w _)
  have hdq : w.heap.size ≠ q := Nat.ne_of_gt hR.lt
  have hqs : q < w.heap.size := hR.lt
  clear hR
  go_enter Tryz.func56, Tryz.ntmps56
  go_upto_region 1 with fail
  generalize (w.alloc (.cells #[.pointer (some ⟨q, 0, none⟩)] 133)) = w1 at *
  have hle : w.heap.size ≤ w1.heap.size := HB0.out.size
  have c0 : w1.cell? ⟨w.heap.size, 0, none⟩ = some (.pointer (some ⟨q, 0, none⟩)) := HX0.out.cell 0
  go_wp2_with fail
  refine (xprices h1 _ HR0.out hs).mono ?_
  rintro e w2 ⟨pa, pc, rfl, HO2, HR2, HB2⟩
  have HB3 : Hid (Bt q w w2) := HB0.out.trans HB2.out
  have HOa : Hid (w2.ownsRow w.heap.size 128 2 (.slice pa N pc) N (lcells (pre rLot N r1).2)) := own_mono HO2.out hle
  clear HB0 HB2 HR0 HX0 c0
  go_wp2_with fail
  go_ret
  exact ⟨_, rfl, ⟨pa, pc, rfl, HOa.out⟩, HR2, HB3⟩
set_option maxHeartbeats 8000000 in
theorem msg5 {q : Nat} {r r1 : Rd} {a : Int} (h1 : rInt r = (r1, a)) (w : World) (hR : Rm w q r)  : Calls Tryz.prog 56 #[.agg #[.pointer (some ⟨q, 0, none⟩)], .int .i64 5] w (MsP q r1 (fun W v => v = .iface 74 (.agg #[.int .i64 a])) w) := by
  have HX0 : Hid (Bx (w.alloc (.cells #[.pointer (some ⟨q, 0, none⟩)] 133)) w.heap.size #[.pointer (some ⟨q, 0, none⟩)] 133) := Bx.new _ _ _
  have HR0 : Hid (Rm (w.alloc (.cells #[.pointer (some ⟨q, 0, none⟩)] 133)) q r) := hR.keep (below_a _ _)
  have HB0 : Hid (Bt q w (w.alloc (.cells #[.pointer (some ⟨q, 0, none⟩)] 133))) := Bt.of_below (below_a w _)
  have hdq : w.heap.size ≠ q := Nat.ne_of_gt hR.lt
  have hqs : q < w.heap.size := hR.lt
  clear hR
  go_enter Tryz.func56, Tryz.ntmps56
  go_upto_region 1 with fail
  generalize (w.alloc (.cells #[.pointer (some ⟨q, 0, none⟩)] 133)) = w1 at *
  have hle : w.heap.size ≤ w1.heap.size := HB0.out.size
  have c0 : w1.cell? ⟨w.heap.size, 0, none⟩ = some (.pointer (some ⟨q, 0, none⟩)) := HX0.out.cell 0
  go_wp2_with fail
  refine (cInt h1 _ HR0.out).mono ?_
  rintro e w2 ⟨rfl, HR2, HB2⟩
  have HB3 : Hid (Bt q w w2) := HB0.out.trans HB2.out
  clear HB0 HB2 HR0 HX0 c0
  go_wp2_with fail
  go_ret
  exact ⟨_, rfl, rfl, HR2, HB3⟩
set_option maxHeartbeats 8000000 in
theorem msg6 {q : Nat} {r r1 r2 r3 : Rd} {a b : Int} {c : List UInt8} (h1 : rInt r = (r1, a)) (h2 : rInt r1 = (r2, b)) (h3 : rText r2 12 = (r3, c)) (w : World) (hR : Rm w q r) (hs2 : r2.s.length ≤ 281474976710656) : Calls Tryz.prog 56 #[.agg #[.pointer (some ⟨q, 0, none⟩)], .int .i64 6] w (MsP q r3 (fun W v => v = .iface 84 (.agg #[.int .i64 a, .string ⟨c.toArray⟩, .int .i64 b])) w) := by
  have HX0 : Hid (Bx (w.alloc (.cells #[.pointer (some ⟨q, 0, none⟩)] 133)) w.heap.size #[.pointer (some ⟨q, 0, none⟩)] 133) := Bx.new _ _ _
  have HR0 : Hid (Rm (w.alloc (.cells #[.pointer (some ⟨q, 0, none⟩)] 133)) q r) := hR.keep (below_a _ _)
  have HB0 : Hid (Bt q w (w.alloc (.cells #[.pointer (some ⟨q, 0, none⟩)] 133))) := Bt.of_below (below_a w _)
  have hdq : w.heap.size ≠ q := Nat.ne_of_gt hR.lt
  have hqs : q < w.heap.size := hR.lt
  clear hR
  go_enter Tryz.func56, Tryz.ntmps56
  go_upto_region 1 with fail
  generalize (w.alloc (.cells #[.pointer (some ⟨q, 0, none⟩)] 133)) = w1 at *
  go_wp2_with fail
  refine wp_region_held (S := fun W => Bx W w.heap.size #[.pointer (some ⟨q, 0, none⟩)] 133 ∧ Bt q w W) (by kernel_rfl) ?_
  change wpAnyH _ _ _ _ _ 11 #[false, false, false, false, false, false, false, false, false, false, false] _ w1.drew
  have hS0 : Bx w1.drew w.heap.size #[.pointer (some ⟨q, 0, none⟩)] 133 ∧ Bt q w w1.drew := ⟨HX0.out, HB0.out.drewN 1⟩
  have hR0 : Rm w1.drew q r := HR0.out.drewN 1
  clear HX0 HB0 HR0
  obtain ⟨v0, hv0⟩ : ∃ v, v = w1.drew := ⟨_, rfl⟩
  rw [← hv0] at hS0 hR0 ⊢
  clear hv0
  refine takeR (fuel := 10) (i := 0) (v := .pointer (some ⟨w.heap.size, 0, none⟩)) rfl (by kernel_rfl) (by kernel_rfl) (by kernel_rfl) (fun _ _ _ h => h) (Or.inl ⟨rfl, fun W hW => by go_simp⟩) hS0 ?_
  simp only [Act.put, List.setIfInBounds_toArray, List.set_cons_zero, List.set_cons_succ]
  refine takeR (fuel := 9) (i := 1) (v := .pointer (some ⟨q, 0, none⟩)) rfl (by kernel_rfl) (by kernel_rfl) (by kernel_rfl) (fun _ _ _ h => h) (Or.inl ⟨rfl, fun W hW => by have cj := (hW.1.cell 0 : W.cell? ⟨w.heap.size, 0, none⟩ = some (.pointer (some ⟨q, 0, none⟩))); go_simp⟩) hS0 ?_
  simp only [Act.put, List.setIfInBounds_toArray, List.set_cons_zero, List.set_cons_succ]
  refine takeR (fuel := 8) (i := 3) (v := .pointer (some ⟨w.heap.size, 0, none⟩)) rfl (by kernel_rfl) (by kernel_rfl) (by kernel_rfl) (fun _ _ _ h => h) (Or.inl ⟨rfl, fun W hW => by go_simp⟩) hS0 ?_
  simp only [Act.put, List.setIfInBounds_toArray, List.set_cons_zero, List.set_cons_succ]
  refine takeR (fuel := 7) (i := 4) (v := .pointer (some ⟨q, 0, none⟩)) rfl (by kernel_rfl) (by kernel_rfl) (by kernel_rfl) (fun _ _ _ h => h) (Or.inl ⟨rfl, fun W hW => by have cj := (hW.1.cell 0 : W.cell? ⟨w.heap.size, 0, none⟩ = some (.pointer (some ⟨q, 0, none⟩))); go_simp⟩) hS0 ?_
  simp only [Act.put, List.setIfInBounds_toArray, List.set_cons_zero, List.set_cons_succ]
  refine takeR (fuel := 6) (i := 6) (v := .agg #[.pointer (some ⟨q, 0, none⟩)]) rfl (by kernel_rfl) (by kernel_rfl) (by kernel_rfl) (fun _ _ _ h => h) (Or.inl ⟨rfl, fun W hW => by have cj := (hW.1.cell 0 : W.cell? ⟨w.heap.size, 0, none⟩ = some (.pointer (some ⟨q, 0, none⟩))); go_simp⟩) hS0 ?_
  simp only [Act.put, List.setIfInBounds_toArray, List.set_cons_zero, List.set_cons_succ]
  refine consR (fuel := 5) (i := 2) rfl (by kernel_rfl) (fun K hK => ?_)
  rw [if_pos (by rfl)]
  go_simp
  refine (cInt h1 _ hR0).mono ?_
  rintro e u1 ⟨rfl, HR1, hC1⟩
  refine hK.out _ _ ⟨hS0.1.bt hC1.out hdq, hS0.2.trans hC1.out⟩ (fun hS1 => ?_)
  clear hK
  try simp only [Act.put, List.setIfInBounds_toArray, List.set_cons_zero, List.set_cons_succ]
  have hR1 := HR1.out
  clear hS0 hR0 HR1
  refine consR (fuel := 4) (i := 5) rfl (by kernel_rfl) (fun K hK => ?_)
  rw [if_pos (by rfl)]
  go_simp
  refine (cInt h2 _ hR1).mono ?_
  rintro e u2 ⟨rfl, HR2, hC2⟩
  refine hK.out _ _ ⟨hS1.1.bt hC2.out hdq, hS1.2.trans hC2.out⟩ (fun hS2 => ?_)
  clear hK
  try simp only [Act.put, List.setIfInBounds_toArray, List.set_cons_zero, List.set_cons_succ]
  have hR2 := HR2.out
  clear hS1 hR1 HR2
  refine consR (fuel := 3) (i := 7) rfl (by kernel_rfl) (fun K hK => ?_)
  rw [if_pos (by rfl)]
  go_simp
  refine (xcode h3 _ hR2 hs2).mono ?_
  rintro e u3 ⟨rfl, HR3, hC3⟩
  refine hK.out _ _ ⟨hS2.1.bt hC3.out hdq, hS2.2.trans hC3.out⟩ (fun hS3 => ?_)
  clear hK
  try simp only [Act.put, List.setIfInBounds_toArray, List.set_cons_zero, List.set_cons_succ]
  have hR3 := HR3.out
  clear hS2 hR2 HR3
  refine takeR (fuel := 2) (i := 8) (v := .agg #[.int .i64 a, .string ⟨c.toArray⟩, .int .i64 b]) rfl (by kernel_rfl) (by kernel_rfl) (by kernel_rfl) (fun _ _ _ h => h) (Or.inl ⟨rfl, fun W hW => by go_simp⟩) hS3 ?_
  simp only [Act.put, List.setIfInBounds_toArray, List.set_cons_zero, List.set_cons_succ]
  refine takeR (fuel := 1) (i := 9) (v := .iface 84 (.agg #[.int .i64 a, .string ⟨c.toArray⟩, .int .i64 b])) rfl (by kernel_rfl) (by kernel_rfl) (by kernel_rfl) (fun _ _ _ h => h) (Or.inl ⟨rfl, fun W hW => by go_simp⟩) hS3 ?_
  simp only [Act.put, List.setIfInBounds_toArray, List.set_cons_zero, List.set_cons_succ]
  refine takeR (fuel := 0) (i := 10) (v := .iface 84 (.agg #[.int .i64 a, .string ⟨c.toArray⟩, .int .i64 b])) rfl (by kernel_rfl) (by kernel_rfl) (by kernel_rfl) (fun _ _ _ h => h) (Or.inl ⟨rfl, fun _ _ => rfl⟩) hS3 ?_
  simp only [Act.put, List.setIfInBounds_toArray, List.set_cons_zero, List.set_cons_succ]
  refine wpAnyH_done (by kernel_rfl) ?_ _
  have HRz : Hid (Rm u3 q r3) := hR3
  have HBz : Hid (Bt q w u3) := hS3.2
  clear hS3 hR3
  go_wp2_with fail
  go_ret
  exact ⟨_, rfl, rfl, HRz, HBz⟩
set_option maxHeartbeats 8000000 in
theorem msg7 {q : Nat} {r r1 r2 r3 : Rd} {a b : Int} {c : List UInt8} (h1 : rInt r = (r1, a)) (h2 : rInt r1 = (r2, b)) (h3 : rText r2 12 = (r3, c)) (w : World) (hR : Rm w q r) (hs2 : r2.s.length ≤ 281474976710656) : Calls Tryz.prog 56 #[.agg #[.pointer (some ⟨q, 0, none⟩)], .int .i64 7] w (MsP q r3 (fun W v => v = .iface 86 (.agg #[.int .i64 a, .string ⟨c.toArray⟩, .int .i64 b])) w) := by
  have HX0 : Hid (Bx (w.alloc (.cells #[.pointer (some ⟨q, 0, none⟩)] 133)) w.heap.size #[.pointer (some ⟨q, 0, none⟩)] 133) := Bx.new _ _ _
  have HR0 : Hid (Rm (w.alloc (.cells #[.pointer (some ⟨q, 0, none⟩)] 133)) q r) := hR.keep (below_a _ _)
  have HB0 : Hid (Bt q w (w.alloc (.cells #[.pointer (some ⟨q, 0, none⟩)] 133))) := Bt.of_below (below_a w _)
  have hdq : w.heap.size ≠ q := Nat.ne_of_gt hR.lt
  have hqs : q < w.heap.size := hR.lt
  clear hR
  go_enter Tryz.func56, Tryz.ntmps56
  go_upto_region 1 with fail
  generalize (w.alloc (.cells #[.pointer (some ⟨q, 0, none⟩)] 133)) = w1 at *
  go_wp2_with fail
  refine wp_region_held (S := fun W => Bx W w.heap.size #[.pointer (some ⟨q, 0, none⟩)] 133 ∧ Bt q w W) (by kernel_rfl) ?_
  change wpAnyH _ _ _ _ _ 11 #[false, false, false, false, false, false, false, false, false, false, false] _ w1.drew
  have hS0 : Bx w1.drew w.heap.size #[.pointer (some ⟨q, 0, none⟩)] 133 ∧ Bt q w w1.drew := ⟨HX0.out, HB0.out.drewN 1⟩
  have hR0 : Rm w1.drew q r := HR0.out.drewN 1
  clear HX0 HB0 HR0
  obtain ⟨v0, hv0⟩ : ∃ v, v = w1.drew := ⟨_, rfl⟩
  rw [← hv0] at hS0 hR0 ⊢
  clear hv0
  refine takeR (fuel := 10) (i := 0) (v := .pointer (some ⟨w.heap.size, 0, none⟩)) rfl (by kernel_rfl) (by kernel_rfl) (by kernel_rfl) (fun _ _ _ h => h) (Or.inl ⟨rfl, fun W hW => by go_simp⟩) hS0 ?_
  simp only [Act.put, List.setIfInBounds_toArray, List.set_cons_zero, List.set_cons_succ]
  refine takeR (fuel := 9) (i := 1) (v := .pointer (some ⟨q, 0, none⟩)) rfl (by kernel_rfl) (by kernel_rfl) (by kernel_rfl) (fun _ _ _ h => h) (Or.inl ⟨rfl, fun W hW => by have cj := (hW.1.cell 0 : W.cell? ⟨w.heap.size, 0, none⟩ = some (.pointer (some ⟨q, 0, none⟩))); go_simp⟩) hS0 ?_
  simp only [Act.put, List.setIfInBounds_toArray, List.set_cons_zero, List.set_cons_succ]
  refine takeR (fuel := 8) (i := 3) (v := .pointer (some ⟨w.heap.size, 0, none⟩)) rfl (by kernel_rfl) (by kernel_rfl) (by kernel_rfl) (fun _ _ _ h => h) (Or.inl ⟨rfl, fun W hW => by go_simp⟩) hS0 ?_
  simp only [Act.put, List.setIfInBounds_toArray, List.set_cons_zero, List.set_cons_succ]
  refine takeR (fuel := 7) (i := 4) (v := .pointer (some ⟨q, 0, none⟩)) rfl (by kernel_rfl) (by kernel_rfl) (by kernel_rfl) (fun _ _ _ h => h) (Or.inl ⟨rfl, fun W hW => by have cj := (hW.1.cell 0 : W.cell? ⟨w.heap.size, 0, none⟩ = some (.pointer (some ⟨q, 0, none⟩))); go_simp⟩) hS0 ?_
  simp only [Act.put, List.setIfInBounds_toArray, List.set_cons_zero, List.set_cons_succ]
  refine takeR (fuel := 6) (i := 6) (v := .agg #[.pointer (some ⟨q, 0, none⟩)]) rfl (by kernel_rfl) (by kernel_rfl) (by kernel_rfl) (fun _ _ _ h => h) (Or.inl ⟨rfl, fun W hW => by have cj := (hW.1.cell 0 : W.cell? ⟨w.heap.size, 0, none⟩ = some (.pointer (some ⟨q, 0, none⟩))); go_simp⟩) hS0 ?_
  simp only [Act.put, List.setIfInBounds_toArray, List.set_cons_zero, List.set_cons_succ]
  refine consR (fuel := 5) (i := 2) rfl (by kernel_rfl) (fun K hK => ?_)
  rw [if_pos (by rfl)]
  go_simp
  refine (cInt h1 _ hR0).mono ?_
  rintro e u1 ⟨rfl, HR1, hC1⟩
  refine hK.out _ _ ⟨hS0.1.bt hC1.out hdq, hS0.2.trans hC1.out⟩ (fun hS1 => ?_)
  clear hK
  try simp only [Act.put, List.setIfInBounds_toArray, List.set_cons_zero, List.set_cons_succ]
  have hR1 := HR1.out
  clear hS0 hR0 HR1
  refine consR (fuel := 4) (i := 5) rfl (by kernel_rfl) (fun K hK => ?_)
  rw [if_pos (by rfl)]
  go_simp
  refine (cInt h2 _ hR1).mono ?_
  rintro e u2 ⟨rfl, HR2, hC2⟩
  refine hK.out _ _ ⟨hS1.1.bt hC2.out hdq, hS1.2.trans hC2.out⟩ (fun hS2 => ?_)
  clear hK
  try simp only [Act.put, List.setIfInBounds_toArray, List.set_cons_zero, List.set_cons_succ]
  have hR2 := HR2.out
  clear hS1 hR1 HR2
  refine consR (fuel := 3) (i := 7) rfl (by kernel_rfl) (fun K hK => ?_)
  rw [if_pos (by rfl)]
  go_simp
  refine (xcode h3 _ hR2 hs2).mono ?_
  rintro e u3 ⟨rfl, HR3, hC3⟩
  refine hK.out _ _ ⟨hS2.1.bt hC3.out hdq, hS2.2.trans hC3.out⟩ (fun hS3 => ?_)
  clear hK
  try simp only [Act.put, List.setIfInBounds_toArray, List.set_cons_zero, List.set_cons_succ]
  have hR3 := HR3.out
  clear hS2 hR2 HR3
  refine takeR (fuel := 2) (i := 8) (v := .agg #[.int .i64 a, .string ⟨c.toArray⟩, .int .i64 b]) rfl (by kernel_rfl) (by kernel_rfl) (by kernel_rfl) (fun _ _ _ h => h) (Or.inl ⟨rfl, fun W hW => by go_simp⟩) hS3 ?_
  simp only [Act.put, List.setIfInBounds_toArray, List.set_cons_zero, List.set_cons_succ]
  refine takeR (fuel := 1) (i := 9) (v := .iface 86 (.agg #[.int .i64 a, .string ⟨c.toArray⟩, .int .i64 b])) rfl (by kernel_rfl) (by kernel_rfl) (by kernel_rfl) (fun _ _ _ h => h) (Or.inl ⟨rfl, fun W hW => by go_simp⟩) hS3 ?_
  simp only [Act.put, List.setIfInBounds_toArray, List.set_cons_zero, List.set_cons_succ]
  refine takeR (fuel := 0) (i := 10) (v := .iface 86 (.agg #[.int .i64 a, .string ⟨c.toArray⟩, .int .i64 b])) rfl (by kernel_rfl) (by kernel_rfl) (by kernel_rfl) (fun _ _ _ h => h) (Or.inl ⟨rfl, fun _ _ => rfl⟩) hS3 ?_
  simp only [Act.put, List.setIfInBounds_toArray, List.set_cons_zero, List.set_cons_succ]
  refine wpAnyH_done (by kernel_rfl) ?_ _
  have HRz : Hid (Rm u3 q r3) := hR3
  have HBz : Hid (Bt q w u3) := hS3.2
  clear hS3 hR3
  go_wp2_with fail
  go_ret
  exact ⟨_, rfl, rfl, HRz, HBz⟩
set_option maxHeartbeats 8000000 in
theorem msg8 {q : Nat} {r r1 r2 r3 r4 r5 r6 r7 r8 : Rd} {a0 a1 a2 a3 a4 a5 a6 a7 : Int} (h0 : rInt r = (r1, a0)) (h1 : rInt r1 = (r2, a1)) (h2 : rInt r2 = (r3, a2)) (h3 : rInt r3 = (r4, a3)) (h4 : rInt r4 = (r5, a4)) (h5 : rInt r5 = (r6, a5)) (h6 : rInt r6 = (r7, a6)) (h7 : rInt r7 = (r8, a7)) (w : World) (hR : Rm w q r)  : Calls Tryz.prog 56 #[.agg #[.pointer (some ⟨q, 0, none⟩)], .int .i64 8] w (MsP q r8 (fun W v => v = .iface 63 (.agg #[.int .i64 a0, .int .i64 a1, .int .i64 a2, .int .i64 a3, .int .i64 a4, .int .i64 a5, .int .i64 a6, .int .i64 a7])) w) := by
  have HX0 : Hid (Bx (w.alloc (.cells #[.pointer (some ⟨q, 0, none⟩)] 133)) w.heap.size #[.pointer (some ⟨q, 0, none⟩)] 133) := Bx.new _ _ _
  have HR0 : Hid (Rm (w.alloc (.cells #[.pointer (some ⟨q, 0, none⟩)] 133)) q r) := hR.keep (below_a _ _)
  have HB0 : Hid (Bt q w (w.alloc (.cells #[.pointer (some ⟨q, 0, none⟩)] 133))) := Bt.of_below (below_a w _)
  have hdq : w.heap.size ≠ q := Nat.ne_of_gt hR.lt
  have hqs : q < w.heap.size := hR.lt
  clear hR
  go_enter Tryz.func56, Tryz.ntmps56
  go_upto_region 1 with fail
  generalize (w.alloc (.cells #[.pointer (some ⟨q, 0, none⟩)] 133)) = w1 at *
  have hle : w.heap.size ≤ w1.heap.size := HB0.out.size
  have c0 : w1.cell? ⟨w.heap.size, 0, none⟩ = some (.pointer (some ⟨q, 0, none⟩)) := HX0.out.cell 0
  go_wp2_with fail
  refine (xquoteR h0 h1 h2 h3 h4 h5 h6 h7 _ HR0.out).mono ?_
  rintro e w2 ⟨rfl, HR2, HB2⟩
  have HB3 : Hid (Bt q w w2) := HB0.out.trans HB2.out
  clear HB0 HB2 HR0 HX0 c0
  go_wp2_with fail
  go_ret
  exact ⟨_, rfl, rfl, HR2, HB3⟩
set_option maxHeartbeats 8000000 in
theorem msg9 {q : Nat} {r r1 r2 : Rd} {a b : Int} (h1 : rInt r = (r1, a)) (h2 : rInt r1 = (r2, b)) (w : World) (hR : Rm w q r)  : Calls Tryz.prog 56 #[.agg #[.pointer (some ⟨q, 0, none⟩)], .int .i64 9] w (MsP q r2 (fun W v => v = .iface 88 (.agg #[.int .i64 a, .int .i64 b])) w) := by
  have HX0 : Hid (Bx (w.alloc (.cells #[.pointer (some ⟨q, 0, none⟩)] 133)) w.heap.size #[.pointer (some ⟨q, 0, none⟩)] 133) := Bx.new _ _ _
  have HR0 : Hid (Rm (w.alloc (.cells #[.pointer (some ⟨q, 0, none⟩)] 133)) q r) := hR.keep (below_a _ _)
  have HB0 : Hid (Bt q w (w.alloc (.cells #[.pointer (some ⟨q, 0, none⟩)] 133))) := Bt.of_below (below_a w _)
  have hdq : w.heap.size ≠ q := Nat.ne_of_gt hR.lt
  have hqs : q < w.heap.size := hR.lt
  clear hR
  go_enter Tryz.func56, Tryz.ntmps56
  go_upto_region 1 with fail
  generalize (w.alloc (.cells #[.pointer (some ⟨q, 0, none⟩)] 133)) = w1 at *
  go_wp2_with fail
  refine wp_region_held (S := fun W => Bx W w.heap.size #[.pointer (some ⟨q, 0, none⟩)] 133 ∧ Bt q w W) (by kernel_rfl) ?_
  change wpAnyH _ _ _ _ _ 9 #[false, false, false, false, false, false, false, false, false] _ w1.drew
  have hS0 : Bx w1.drew w.heap.size #[.pointer (some ⟨q, 0, none⟩)] 133 ∧ Bt q w w1.drew := ⟨HX0.out, HB0.out.drewN 1⟩
  have hR0 : Rm w1.drew q r := HR0.out.drewN 1
  clear HX0 HB0 HR0
  obtain ⟨v0, hv0⟩ : ∃ v, v = w1.drew := ⟨_, rfl⟩
  rw [← hv0] at hS0 hR0 ⊢
  clear hv0
  refine takeR (fuel := 8) (i := 0) (v := .pointer (some ⟨w.heap.size, 0, none⟩)) rfl (by kernel_rfl) (by kernel_rfl) (by kernel_rfl) (fun _ _ _ h => h) (Or.inl ⟨rfl, fun W hW => by go_simp⟩) hS0 ?_
  simp only [Act.put, List.setIfInBounds_toArray, List.set_cons_zero, List.set_cons_succ]
  refine takeR (fuel := 7) (i := 1) (v := .pointer (some ⟨q, 0, none⟩)) rfl (by kernel_rfl) (by kernel_rfl) (by kernel_rfl) (fun _ _ _ h => h) (Or.inl ⟨rfl, fun W hW => by have cj := (hW.1.cell 0 : W.cell? ⟨w.heap.size, 0, none⟩ = some (.pointer (some ⟨q, 0, none⟩))); go_simp⟩) hS0 ?_
  simp only [Act.put, List.setIfInBounds_toArray, List.set_cons_zero, List.set_cons_succ]
  refine takeR (fuel := 6) (i := 3) (v := .pointer (some ⟨w.heap.size, 0, none⟩)) rfl (by kernel_rfl) (by kernel_rfl) (by kernel_rfl) (fun _ _ _ h => h) (Or.inl ⟨rfl, fun W hW => by go_simp⟩) hS0 ?_
  simp only [Act.put, List.setIfInBounds_toArray, List.set_cons_zero, List.set_cons_succ]
  refine takeR (fuel := 5) (i := 4) (v := .pointer (some ⟨q, 0, none⟩)) rfl (by kernel_rfl) (by kernel_rfl) (by kernel_rfl) (fun _ _ _ h => h) (Or.inl ⟨rfl, fun W hW => by have cj := (hW.1.cell 0 : W.cell? ⟨w.heap.size, 0, none⟩ = some (.pointer (some ⟨q, 0, none⟩))); go_simp⟩) hS0 ?_
  simp only [Act.put, List.setIfInBounds_toArray, List.set_cons_zero, List.set_cons_succ]
  refine consR (fuel := 4) (i := 2) rfl (by kernel_rfl) (fun K hK => ?_)
  rw [if_pos (by rfl)]
  go_simp
  refine (cInt h1 _ hR0).mono ?_
  rintro e u1 ⟨rfl, HR1, hC1⟩
  refine hK.out _ _ ⟨hS0.1.bt hC1.out hdq, hS0.2.trans hC1.out⟩ (fun hS1 => ?_)
  clear hK
  try simp only [Act.put, List.setIfInBounds_toArray, List.set_cons_zero, List.set_cons_succ]
  have hR1 := HR1.out
  clear hS0 hR0 HR1
  refine consR (fuel := 3) (i := 5) rfl (by kernel_rfl) (fun K hK => ?_)
  rw [if_pos (by rfl)]
  go_simp
  refine (cInt h2 _ hR1).mono ?_
  rintro e u2 ⟨rfl, HR2, hC2⟩
  refine hK.out _ _ ⟨hS1.1.bt hC2.out hdq, hS1.2.trans hC2.out⟩ (fun hS2 => ?_)
  clear hK
  try simp only [Act.put, List.setIfInBounds_toArray, List.set_cons_zero, List.set_cons_succ]
  have hR2 := HR2.out
  clear hS1 hR1 HR2
  refine takeR (fuel := 2) (i := 6) (v := .agg #[.int .i64 a, .int .i64 b]) rfl (by kernel_rfl) (by kernel_rfl) (by kernel_rfl) (fun _ _ _ h => h) (Or.inl ⟨rfl, fun W hW => by go_simp⟩) hS2 ?_
  simp only [Act.put, List.setIfInBounds_toArray, List.set_cons_zero, List.set_cons_succ]
  refine takeR (fuel := 1) (i := 7) (v := .iface 88 (.agg #[.int .i64 a, .int .i64 b])) rfl (by kernel_rfl) (by kernel_rfl) (by kernel_rfl) (fun _ _ _ h => h) (Or.inl ⟨rfl, fun W hW => by go_simp⟩) hS2 ?_
  simp only [Act.put, List.setIfInBounds_toArray, List.set_cons_zero, List.set_cons_succ]
  refine takeR (fuel := 0) (i := 8) (v := .iface 88 (.agg #[.int .i64 a, .int .i64 b])) rfl (by kernel_rfl) (by kernel_rfl) (by kernel_rfl) (fun _ _ _ h => h) (Or.inl ⟨rfl, fun _ _ => rfl⟩) hS2 ?_
  simp only [Act.put, List.setIfInBounds_toArray, List.set_cons_zero, List.set_cons_succ]
  refine wpAnyH_done (by kernel_rfl) ?_ _
  have HRz : Hid (Rm u2 q r2) := hR2
  have HBz : Hid (Bt q w u2) := hS2.2
  clear hS2 hR2
  go_wp2_with fail
  go_ret
  exact ⟨_, rfl, rfl, HRz, HBz⟩
set_option maxHeartbeats 8000000 in
theorem msg10 {q : Nat} {r r1 r2 r3 : Rd} {a b c : Int} (h1 : rInt r = (r1, a)) (h2 : rInt r1 = (r2, b)) (h3 : rInt r2 = (r3, c)) (w : World) (hR : Rm w q r)  : Calls Tryz.prog 56 #[.agg #[.pointer (some ⟨q, 0, none⟩)], .int .i64 10] w (MsP q r3 (fun W v => v = .iface 90 (.agg #[.int .i64 a, .int .i64 b, .int .i64 c])) w) := by
  have HX0 : Hid (Bx (w.alloc (.cells #[.pointer (some ⟨q, 0, none⟩)] 133)) w.heap.size #[.pointer (some ⟨q, 0, none⟩)] 133) := Bx.new _ _ _
  have HR0 : Hid (Rm (w.alloc (.cells #[.pointer (some ⟨q, 0, none⟩)] 133)) q r) := hR.keep (below_a _ _)
  have HB0 : Hid (Bt q w (w.alloc (.cells #[.pointer (some ⟨q, 0, none⟩)] 133))) := Bt.of_below (below_a w _)
  have hdq : w.heap.size ≠ q := Nat.ne_of_gt hR.lt
  have hqs : q < w.heap.size := hR.lt
  clear hR
  go_enter Tryz.func56, Tryz.ntmps56
  go_upto_region 1 with fail
  generalize (w.alloc (.cells #[.pointer (some ⟨q, 0, none⟩)] 133)) = w1 at *
  go_wp2_with fail
  refine wp_region_held (S := fun W => Bx W w.heap.size #[.pointer (some ⟨q, 0, none⟩)] 133 ∧ Bt q w W) (by kernel_rfl) ?_
  change wpAnyH _ _ _ _ _ 12 #[false, false, false, false, false, false, false, false, false, false, false, false] _ w1.drew
  have hS0 : Bx w1.drew w.heap.size #[.pointer (some ⟨q, 0, none⟩)] 133 ∧ Bt q w w1.drew := ⟨HX0.out, HB0.out.drewN 1⟩
  have hR0 : Rm w1.drew q r := HR0.out.drewN 1
  clear HX0 HB0 HR0
  obtain ⟨v0, hv0⟩ : ∃ v, v = w1.drew := ⟨_, rfl⟩
  rw [← hv0] at hS0 hR0 ⊢
  clear hv0
  refine takeR (fuel := 11) (i := 0) (v := .pointer (some ⟨w.heap.size, 0, none⟩)) rfl (by kernel_rfl) (by kernel_rfl) (by kernel_rfl) (fun _ _ _ h => h) (Or.inl ⟨rfl, fun W hW => by go_simp⟩) hS0 ?_
  simp only [Act.put, List.setIfInBounds_toArray, List.set_cons_zero, List.set_cons_succ]
  refine takeR (fuel := 10) (i := 1) (v := .pointer (some ⟨q, 0, none⟩)) rfl (by kernel_rfl) (by kernel_rfl) (by kernel_rfl) (fun _ _ _ h => h) (Or.inl ⟨rfl, fun W hW => by have cj := (hW.1.cell 0 : W.cell? ⟨w.heap.size, 0, none⟩ = some (.pointer (some ⟨q, 0, none⟩))); go_simp⟩) hS0 ?_
  simp only [Act.put, List.setIfInBounds_toArray, List.set_cons_zero, List.set_cons_succ]
  refine takeR (fuel := 9) (i := 3) (v := .pointer (some ⟨w.heap.size, 0, none⟩)) rfl (by kernel_rfl) (by kernel_rfl) (by kernel_rfl) (fun _ _ _ h => h) (Or.inl ⟨rfl, fun W hW => by go_simp⟩) hS0 ?_
  simp only [Act.put, List.setIfInBounds_toArray, List.set_cons_zero, List.set_cons_succ]
  refine takeR (fuel := 8) (i := 4) (v := .pointer (some ⟨q, 0, none⟩)) rfl (by kernel_rfl) (by kernel_rfl) (by kernel_rfl) (fun _ _ _ h => h) (Or.inl ⟨rfl, fun W hW => by have cj := (hW.1.cell 0 : W.cell? ⟨w.heap.size, 0, none⟩ = some (.pointer (some ⟨q, 0, none⟩))); go_simp⟩) hS0 ?_
  simp only [Act.put, List.setIfInBounds_toArray, List.set_cons_zero, List.set_cons_succ]
  refine takeR (fuel := 7) (i := 6) (v := .pointer (some ⟨w.heap.size, 0, none⟩)) rfl (by kernel_rfl) (by kernel_rfl) (by kernel_rfl) (fun _ _ _ h => h) (Or.inl ⟨rfl, fun W hW => by go_simp⟩) hS0 ?_
  simp only [Act.put, List.setIfInBounds_toArray, List.set_cons_zero, List.set_cons_succ]
  refine takeR (fuel := 6) (i := 7) (v := .pointer (some ⟨q, 0, none⟩)) rfl (by kernel_rfl) (by kernel_rfl) (by kernel_rfl) (fun _ _ _ h => h) (Or.inl ⟨rfl, fun W hW => by have cj := (hW.1.cell 0 : W.cell? ⟨w.heap.size, 0, none⟩ = some (.pointer (some ⟨q, 0, none⟩))); go_simp⟩) hS0 ?_
  simp only [Act.put, List.setIfInBounds_toArray, List.set_cons_zero, List.set_cons_succ]
  refine consR (fuel := 5) (i := 2) rfl (by kernel_rfl) (fun K hK => ?_)
  rw [if_pos (by rfl)]
  go_simp
  refine (cInt h1 _ hR0).mono ?_
  rintro e u1 ⟨rfl, HR1, hC1⟩
  refine hK.out _ _ ⟨hS0.1.bt hC1.out hdq, hS0.2.trans hC1.out⟩ (fun hS1 => ?_)
  clear hK
  try simp only [Act.put, List.setIfInBounds_toArray, List.set_cons_zero, List.set_cons_succ]
  have hR1 := HR1.out
  clear hS0 hR0 HR1
  refine consR (fuel := 4) (i := 5) rfl (by kernel_rfl) (fun K hK => ?_)
  rw [if_pos (by rfl)]
  go_simp
  refine (cInt h2 _ hR1).mono ?_
  rintro e u2 ⟨rfl, HR2, hC2⟩
  refine hK.out _ _ ⟨hS1.1.bt hC2.out hdq, hS1.2.trans hC2.out⟩ (fun hS2 => ?_)
  clear hK
  try simp only [Act.put, List.setIfInBounds_toArray, List.set_cons_zero, List.set_cons_succ]
  have hR2 := HR2.out
  clear hS1 hR1 HR2
  refine consR (fuel := 3) (i := 8) rfl (by kernel_rfl) (fun K hK => ?_)
  rw [if_pos (by rfl)]
  go_simp
  refine (cInt h3 _ hR2).mono ?_
  rintro e u3 ⟨rfl, HR3, hC3⟩
  refine hK.out _ _ ⟨hS2.1.bt hC3.out hdq, hS2.2.trans hC3.out⟩ (fun hS3 => ?_)
  clear hK
  try simp only [Act.put, List.setIfInBounds_toArray, List.set_cons_zero, List.set_cons_succ]
  have hR3 := HR3.out
  clear hS2 hR2 HR3
  refine takeR (fuel := 2) (i := 9) (v := .agg #[.int .i64 a, .int .i64 b, .int .i64 c]) rfl (by kernel_rfl) (by kernel_rfl) (by kernel_rfl) (fun _ _ _ h => h) (Or.inl ⟨rfl, fun W hW => by go_simp⟩) hS3 ?_
  simp only [Act.put, List.setIfInBounds_toArray, List.set_cons_zero, List.set_cons_succ]
  refine takeR (fuel := 1) (i := 10) (v := .iface 90 (.agg #[.int .i64 a, .int .i64 b, .int .i64 c])) rfl (by kernel_rfl) (by kernel_rfl) (by kernel_rfl) (fun _ _ _ h => h) (Or.inl ⟨rfl, fun W hW => by go_simp⟩) hS3 ?_
  simp only [Act.put, List.setIfInBounds_toArray, List.set_cons_zero, List.set_cons_succ]
  refine takeR (fuel := 0) (i := 11) (v := .iface 90 (.agg #[.int .i64 a, .int .i64 b, .int .i64 c])) rfl (by kernel_rfl) (by kernel_rfl) (by kernel_rfl) (fun _ _ _ h => h) (Or.inl ⟨rfl, fun _ _ => rfl⟩) hS3 ?_
  simp only [Act.put, List.setIfInBounds_toArray, List.set_cons_zero, List.set_cons_succ]
  refine wpAnyH_done (by kernel_rfl) ?_ _
  have HRz : Hid (Rm u3 q r3) := hR3
  have HBz : Hid (Bt q w u3) := hS3.2
  clear hS3 hR3
  go_wp2_with fail
  go_ret
  exact ⟨_, rfl, rfl, HRz, HBz⟩
set_option maxHeartbeats 8000000 in
theorem msg11 {q : Nat} {r r1 r2 r3 r4 r5 : Rd} {a b d : Int} {c : List UInt8} {N : Nat} (h1 : rInt r = (r1, a)) (h2 : rInt r1 = (r2, b)) (h3 : rText r2 12 = (r3, c)) (h4 : rInt r3 = (r4, d)) (h5 : rCount r4 64 = (r5, N)) (w : World) (hR : Rm w q r) (hs2 : r2.s.length ≤ 281474976710656) (hs4 : r4.s.length ≤ 281474976710656) : Calls Tryz.prog 56 #[.agg #[.pointer (some ⟨q, 0, none⟩)], .int .i64 11] w (MsP q (pre rLot N r5).1 (fun W v => ∃ ia ic, v = .iface 67 (.agg #[.int .i64 a, .int .i64 b, .string ⟨c.toArray⟩, .int .i64 d, .slice ia N ic]) ∧ W.ownsRow w.heap.size 32 2 (.slice ia N ic) N (lcells (pre rLot N r5).2)) w) := by
  have HX0 : Hid (Bx (w.alloc (.cells #[.pointer (some ⟨q, 0, none⟩)] 133)) w.heap.size #[.pointer (some ⟨q, 0, none⟩)] 133) := Bx.new _ _ _
  have HR0 : Hid (Rm (w.alloc (.cells #[.pointer (some ⟨q, 0, none⟩)] 133)) q r) := hR.keep (below_a _ _)
  have HB0 : Hid (Bt q w (w.alloc (.cells #[.pointer (some ⟨q, 0, none⟩)] 133))) := Bt.of_below (below_a w _)
  have hdq : w.heap.size ≠ q := Nat.ne_of_gt hR.lt
  have hqs : q < w.heap.size := hR.lt
  clear hR
  go_enter Tryz.func56, Tryz.ntmps56
  go_upto_region 1 with fail
  generalize (w.alloc (.cells #[.pointer (some ⟨q, 0, none⟩)] 133)) = w1 at *
  go_wp2_with fail
  refine wp_region_held (S := fun W => Bx W w.heap.size #[.pointer (some ⟨q, 0, none⟩)] 133 ∧ Bt q w W) (by kernel_rfl) ?_
  change wpAnyH _ _ _ _ _ 13 #[false, false, false, false, false, false, false, false, false, false, false, false, false] _ w1.drew
  have hS0 : Bx w1.drew w.heap.size #[.pointer (some ⟨q, 0, none⟩)] 133 ∧ Bt q w w1.drew := ⟨HX0.out, HB0.out.drewN 1⟩
  have hR0 : Rm w1.drew q r := HR0.out.drewN 1
  clear HX0 HB0 HR0
  obtain ⟨v0, hv0⟩ : ∃ v, v = w1.drew := ⟨_, rfl⟩
  rw [← hv0] at hS0 hR0 ⊢
  clear hv0
  refine takeR (fuel := 12) (i := 0) (v := .pointer (some ⟨w.heap.size, 0, none⟩)) rfl (by kernel_rfl) (by kernel_rfl) (by kernel_rfl) (fun _ _ _ h => h) (Or.inl ⟨rfl, fun W hW => by go_simp⟩) hS0 ?_
  simp only [Act.put, List.setIfInBounds_toArray, List.set_cons_zero, List.set_cons_succ]
  refine takeR (fuel := 11) (i := 1) (v := .pointer (some ⟨q, 0, none⟩)) rfl (by kernel_rfl) (by kernel_rfl) (by kernel_rfl) (fun _ _ _ h => h) (Or.inl ⟨rfl, fun W hW => by have cj := (hW.1.cell 0 : W.cell? ⟨w.heap.size, 0, none⟩ = some (.pointer (some ⟨q, 0, none⟩))); go_simp⟩) hS0 ?_
  simp only [Act.put, List.setIfInBounds_toArray, List.set_cons_zero, List.set_cons_succ]
  refine takeR (fuel := 10) (i := 3) (v := .pointer (some ⟨w.heap.size, 0, none⟩)) rfl (by kernel_rfl) (by kernel_rfl) (by kernel_rfl) (fun _ _ _ h => h) (Or.inl ⟨rfl, fun W hW => by go_simp⟩) hS0 ?_
  simp only [Act.put, List.setIfInBounds_toArray, List.set_cons_zero, List.set_cons_succ]
  refine takeR (fuel := 9) (i := 4) (v := .pointer (some ⟨q, 0, none⟩)) rfl (by kernel_rfl) (by kernel_rfl) (by kernel_rfl) (fun _ _ _ h => h) (Or.inl ⟨rfl, fun W hW => by have cj := (hW.1.cell 0 : W.cell? ⟨w.heap.size, 0, none⟩ = some (.pointer (some ⟨q, 0, none⟩))); go_simp⟩) hS0 ?_
  simp only [Act.put, List.setIfInBounds_toArray, List.set_cons_zero, List.set_cons_succ]
  refine takeR (fuel := 8) (i := 6) (v := .agg #[.pointer (some ⟨q, 0, none⟩)]) rfl (by kernel_rfl) (by kernel_rfl) (by kernel_rfl) (fun _ _ _ h => h) (Or.inl ⟨rfl, fun W hW => by have cj := (hW.1.cell 0 : W.cell? ⟨w.heap.size, 0, none⟩ = some (.pointer (some ⟨q, 0, none⟩))); go_simp⟩) hS0 ?_
  simp only [Act.put, List.setIfInBounds_toArray, List.set_cons_zero, List.set_cons_succ]
  refine takeR (fuel := 7) (i := 8) (v := .agg #[.pointer (some ⟨q, 0, none⟩)]) rfl (by kernel_rfl) (by kernel_rfl) (by kernel_rfl) (fun _ _ _ h => h) (Or.inl ⟨rfl, fun W hW => by have cj := (hW.1.cell 0 : W.cell? ⟨w.heap.size, 0, none⟩ = some (.pointer (some ⟨q, 0, none⟩))); go_simp⟩) hS0 ?_
  simp only [Act.put, List.setIfInBounds_toArray, List.set_cons_zero, List.set_cons_succ]
  refine consR (fuel := 6) (i := 2) rfl (by kernel_rfl) (fun K hK => ?_)
  rw [if_pos (by rfl)]
  go_simp
  refine (cInt h1 _ hR0).mono ?_
  rintro e u1 ⟨rfl, HR1, hC1⟩
  refine hK.out _ _ ⟨hS0.1.bt hC1.out hdq, hS0.2.trans hC1.out⟩ (fun hS1 => ?_)
  clear hK
  try simp only [Act.put, List.setIfInBounds_toArray, List.set_cons_zero, List.set_cons_succ]
  have hR1 := HR1.out
  clear hS0 hR0 HR1
  refine consR (fuel := 5) (i := 5) rfl (by kernel_rfl) (fun K hK => ?_)
  rw [if_pos (by rfl)]
  go_simp
  refine (cInt h2 _ hR1).mono ?_
  rintro e u2 ⟨rfl, HR2, hC2⟩
  refine hK.out _ _ ⟨hS1.1.bt hC2.out hdq, hS1.2.trans hC2.out⟩ (fun hS2 => ?_)
  clear hK
  try simp only [Act.put, List.setIfInBounds_toArray, List.set_cons_zero, List.set_cons_succ]
  have hR2 := HR2.out
  clear hS1 hR1 HR2
  refine consR (fuel := 4) (i := 7) rfl (by kernel_rfl) (fun K hK => ?_)
  rw [if_pos (by rfl)]
  go_simp
  refine (xlotR h3 h4 _ hR2 hs2).mono ?_
  rintro e u3 ⟨rfl, HR3, hC3⟩
  refine hK.out _ _ ⟨hS2.1.bt hC3.out hdq, hS2.2.trans hC3.out⟩ (fun hS3 => ?_)
  clear hK
  try simp only [Act.put, List.setIfInBounds_toArray, List.set_cons_zero, List.set_cons_succ]
  have hR3 := HR3.out
  clear hS2 hR2 HR3
  refine consR (fuel := 3) (i := 9) rfl (by kernel_rfl) (fun K hK => ?_)
  rw [if_pos (by rfl)]
  go_simp
  refine (xlots h5 _ hR3 hs4).mono ?_
  rintro e u4 ⟨ia, ic, rfl, HO4, HR4, hC4⟩
  refine hK.out _ _ ⟨hS3.1.bt hC4.out hdq, hS3.2.trans hC4.out⟩ (fun hS4 => ?_)
  clear hK
  try simp only [Act.put, List.setIfInBounds_toArray, List.set_cons_zero, List.set_cons_succ]
  have hR4 := HR4.out
  have HO4 := HO4.out
  have hq4 : q < u3.heap.size := hR3.lt
  have hle3 : w.heap.size ≤ u3.heap.size := hS3.2.size
  clear hS3 hR3 HR4
  refine takeR (fuel := 2) (i := 10) (v := .agg #[.int .i64 a, .int .i64 b, .string ⟨c.toArray⟩, .int .i64 d, .slice ia N ic]) rfl (by kernel_rfl) (by kernel_rfl) (by kernel_rfl) (fun _ _ _ h => h) (Or.inl ⟨rfl, fun W hW => by go_simp⟩) hS4 ?_
  simp only [Act.put, List.setIfInBounds_toArray, List.set_cons_zero, List.set_cons_succ]
  refine takeR (fuel := 1) (i := 11) (v := .iface 67 (.agg #[.int .i64 a, .int .i64 b, .string ⟨c.toArray⟩, .int .i64 d, .slice ia N ic])) rfl (by kernel_rfl) (by kernel_rfl) (by kernel_rfl) (fun _ _ _ h => h) (Or.inl ⟨rfl, fun W hW => by go_simp⟩) hS4 ?_
  simp only [Act.put, List.setIfInBounds_toArray, List.set_cons_zero, List.set_cons_succ]
  refine takeR (fuel := 0) (i := 12) (v := .iface 67 (.agg #[.int .i64 a, .int .i64 b, .string ⟨c.toArray⟩, .int .i64 d, .slice ia N ic])) rfl (by kernel_rfl) (by kernel_rfl) (by kernel_rfl) (fun _ _ _ h => h) (Or.inl ⟨rfl, fun _ _ => rfl⟩) hS4 ?_
  simp only [Act.put, List.setIfInBounds_toArray, List.set_cons_zero, List.set_cons_succ]
  refine wpAnyH_done (by kernel_rfl) ?_ _
  have HOa : Hid (u4.ownsRow w.heap.size 32 2 (.slice ia N ic) N (lcells (pre rLot N r5).2)) := own_mono HO4 hle3
  have HRz : Hid (Rm u4 q (pre rLot N r5).1) := hR4
  have HBz : Hid (Bt q w u4) := hS4.2
  clear hS4 hR4
  go_wp2_with fail
  go_ret
  exact ⟨_, rfl, ⟨ia, ic, rfl, HOa.out⟩, HRz, HBz⟩
set_option maxHeartbeats 8000000 in
theorem msg12 {q : Nat} {r r1 r2 r3 : Rd} {a b : Int} {c : Bool} (h1 : rInt r = (r1, a)) (h2 : rInt r1 = (r2, b)) (h3 : rBool r2 = (r3, c)) (w : World) (hR : Rm w q r)  : Calls Tryz.prog 56 #[.agg #[.pointer (some ⟨q, 0, none⟩)], .int .i64 12] w (MsP q r3 (fun W v => v = .iface 92 (.agg #[.int .i64 a, .int .i64 b, .bool c])) w) := by
  have HX0 : Hid (Bx (w.alloc (.cells #[.pointer (some ⟨q, 0, none⟩)] 133)) w.heap.size #[.pointer (some ⟨q, 0, none⟩)] 133) := Bx.new _ _ _
  have HR0 : Hid (Rm (w.alloc (.cells #[.pointer (some ⟨q, 0, none⟩)] 133)) q r) := hR.keep (below_a _ _)
  have HB0 : Hid (Bt q w (w.alloc (.cells #[.pointer (some ⟨q, 0, none⟩)] 133))) := Bt.of_below (below_a w _)
  have hdq : w.heap.size ≠ q := Nat.ne_of_gt hR.lt
  have hqs : q < w.heap.size := hR.lt
  clear hR
  go_enter Tryz.func56, Tryz.ntmps56
  go_upto_region 1 with fail
  generalize (w.alloc (.cells #[.pointer (some ⟨q, 0, none⟩)] 133)) = w1 at *
  go_wp2_with fail
  refine wp_region_held (S := fun W => Bx W w.heap.size #[.pointer (some ⟨q, 0, none⟩)] 133 ∧ Bt q w W) (by kernel_rfl) ?_
  change wpAnyH _ _ _ _ _ 12 #[false, false, false, false, false, false, false, false, false, false, false, false] _ w1.drew
  have hS0 : Bx w1.drew w.heap.size #[.pointer (some ⟨q, 0, none⟩)] 133 ∧ Bt q w w1.drew := ⟨HX0.out, HB0.out.drewN 1⟩
  have hR0 : Rm w1.drew q r := HR0.out.drewN 1
  clear HX0 HB0 HR0
  obtain ⟨v0, hv0⟩ : ∃ v, v = w1.drew := ⟨_, rfl⟩
  rw [← hv0] at hS0 hR0 ⊢
  clear hv0
  refine takeR (fuel := 11) (i := 0) (v := .pointer (some ⟨w.heap.size, 0, none⟩)) rfl (by kernel_rfl) (by kernel_rfl) (by kernel_rfl) (fun _ _ _ h => h) (Or.inl ⟨rfl, fun W hW => by go_simp⟩) hS0 ?_
  simp only [Act.put, List.setIfInBounds_toArray, List.set_cons_zero, List.set_cons_succ]
  refine takeR (fuel := 10) (i := 1) (v := .pointer (some ⟨q, 0, none⟩)) rfl (by kernel_rfl) (by kernel_rfl) (by kernel_rfl) (fun _ _ _ h => h) (Or.inl ⟨rfl, fun W hW => by have cj := (hW.1.cell 0 : W.cell? ⟨w.heap.size, 0, none⟩ = some (.pointer (some ⟨q, 0, none⟩))); go_simp⟩) hS0 ?_
  simp only [Act.put, List.setIfInBounds_toArray, List.set_cons_zero, List.set_cons_succ]
  refine takeR (fuel := 9) (i := 3) (v := .pointer (some ⟨w.heap.size, 0, none⟩)) rfl (by kernel_rfl) (by kernel_rfl) (by kernel_rfl) (fun _ _ _ h => h) (Or.inl ⟨rfl, fun W hW => by go_simp⟩) hS0 ?_
  simp only [Act.put, List.setIfInBounds_toArray, List.set_cons_zero, List.set_cons_succ]
  refine takeR (fuel := 8) (i := 4) (v := .pointer (some ⟨q, 0, none⟩)) rfl (by kernel_rfl) (by kernel_rfl) (by kernel_rfl) (fun _ _ _ h => h) (Or.inl ⟨rfl, fun W hW => by have cj := (hW.1.cell 0 : W.cell? ⟨w.heap.size, 0, none⟩ = some (.pointer (some ⟨q, 0, none⟩))); go_simp⟩) hS0 ?_
  simp only [Act.put, List.setIfInBounds_toArray, List.set_cons_zero, List.set_cons_succ]
  refine takeR (fuel := 7) (i := 6) (v := .pointer (some ⟨w.heap.size, 0, none⟩)) rfl (by kernel_rfl) (by kernel_rfl) (by kernel_rfl) (fun _ _ _ h => h) (Or.inl ⟨rfl, fun W hW => by go_simp⟩) hS0 ?_
  simp only [Act.put, List.setIfInBounds_toArray, List.set_cons_zero, List.set_cons_succ]
  refine takeR (fuel := 6) (i := 7) (v := .pointer (some ⟨q, 0, none⟩)) rfl (by kernel_rfl) (by kernel_rfl) (by kernel_rfl) (fun _ _ _ h => h) (Or.inl ⟨rfl, fun W hW => by have cj := (hW.1.cell 0 : W.cell? ⟨w.heap.size, 0, none⟩ = some (.pointer (some ⟨q, 0, none⟩))); go_simp⟩) hS0 ?_
  simp only [Act.put, List.setIfInBounds_toArray, List.set_cons_zero, List.set_cons_succ]
  refine consR (fuel := 5) (i := 2) rfl (by kernel_rfl) (fun K hK => ?_)
  rw [if_pos (by rfl)]
  go_simp
  refine (cInt h1 _ hR0).mono ?_
  rintro e u1 ⟨rfl, HR1, hC1⟩
  refine hK.out _ _ ⟨hS0.1.bt hC1.out hdq, hS0.2.trans hC1.out⟩ (fun hS1 => ?_)
  clear hK
  try simp only [Act.put, List.setIfInBounds_toArray, List.set_cons_zero, List.set_cons_succ]
  have hR1 := HR1.out
  clear hS0 hR0 HR1
  refine consR (fuel := 4) (i := 5) rfl (by kernel_rfl) (fun K hK => ?_)
  rw [if_pos (by rfl)]
  go_simp
  refine (cInt h2 _ hR1).mono ?_
  rintro e u2 ⟨rfl, HR2, hC2⟩
  refine hK.out _ _ ⟨hS1.1.bt hC2.out hdq, hS1.2.trans hC2.out⟩ (fun hS2 => ?_)
  clear hK
  try simp only [Act.put, List.setIfInBounds_toArray, List.set_cons_zero, List.set_cons_succ]
  have hR2 := HR2.out
  clear hS1 hR1 HR2
  refine consR (fuel := 3) (i := 8) rfl (by kernel_rfl) (fun K hK => ?_)
  rw [if_pos (by rfl)]
  go_simp
  refine (cBool h3 _ hR2).mono ?_
  rintro e u3 ⟨rfl, HR3, hC3⟩
  refine hK.out _ _ ⟨hS2.1.bt hC3.out hdq, hS2.2.trans hC3.out⟩ (fun hS3 => ?_)
  clear hK
  try simp only [Act.put, List.setIfInBounds_toArray, List.set_cons_zero, List.set_cons_succ]
  have hR3 := HR3.out
  clear hS2 hR2 HR3
  refine takeR (fuel := 2) (i := 9) (v := .agg #[.int .i64 a, .int .i64 b, .bool c]) rfl (by kernel_rfl) (by kernel_rfl) (by kernel_rfl) (fun _ _ _ h => h) (Or.inl ⟨rfl, fun W hW => by go_simp⟩) hS3 ?_
  simp only [Act.put, List.setIfInBounds_toArray, List.set_cons_zero, List.set_cons_succ]
  refine takeR (fuel := 1) (i := 10) (v := .iface 92 (.agg #[.int .i64 a, .int .i64 b, .bool c])) rfl (by kernel_rfl) (by kernel_rfl) (by kernel_rfl) (fun _ _ _ h => h) (Or.inl ⟨rfl, fun W hW => by go_simp⟩) hS3 ?_
  simp only [Act.put, List.setIfInBounds_toArray, List.set_cons_zero, List.set_cons_succ]
  refine takeR (fuel := 0) (i := 11) (v := .iface 92 (.agg #[.int .i64 a, .int .i64 b, .bool c])) rfl (by kernel_rfl) (by kernel_rfl) (by kernel_rfl) (fun _ _ _ h => h) (Or.inl ⟨rfl, fun _ _ => rfl⟩) hS3 ?_
  simp only [Act.put, List.setIfInBounds_toArray, List.set_cons_zero, List.set_cons_succ]
  refine wpAnyH_done (by kernel_rfl) ?_ _
  have HRz : Hid (Rm u3 q r3) := hR3
  have HBz : Hid (Bt q w u3) := hS3.2
  clear hS3 hR3
  go_wp2_with fail
  go_ret
  exact ⟨_, rfl, rfl, HRz, HBz⟩
set_option maxHeartbeats 8000000 in
theorem msg13 {q : Nat} {r r1 : Rd} {a : Int} (h1 : rInt r = (r1, a)) (w : World) (hR : Rm w q r)  : Calls Tryz.prog 56 #[.agg #[.pointer (some ⟨q, 0, none⟩)], .int .i64 13] w (MsP q r1 (fun W v => v = .iface 94 (.agg #[.int .i64 a])) w) := by
  have HX0 : Hid (Bx (w.alloc (.cells #[.pointer (some ⟨q, 0, none⟩)] 133)) w.heap.size #[.pointer (some ⟨q, 0, none⟩)] 133) := Bx.new _ _ _
  have HR0 : Hid (Rm (w.alloc (.cells #[.pointer (some ⟨q, 0, none⟩)] 133)) q r) := hR.keep (below_a _ _)
  have HB0 : Hid (Bt q w (w.alloc (.cells #[.pointer (some ⟨q, 0, none⟩)] 133))) := Bt.of_below (below_a w _)
  have hdq : w.heap.size ≠ q := Nat.ne_of_gt hR.lt
  have hqs : q < w.heap.size := hR.lt
  clear hR
  go_enter Tryz.func56, Tryz.ntmps56
  go_upto_region 1 with fail
  generalize (w.alloc (.cells #[.pointer (some ⟨q, 0, none⟩)] 133)) = w1 at *
  have hle : w.heap.size ≤ w1.heap.size := HB0.out.size
  have c0 : w1.cell? ⟨w.heap.size, 0, none⟩ = some (.pointer (some ⟨q, 0, none⟩)) := HX0.out.cell 0
  go_wp2_with fail
  refine (cInt h1 _ HR0.out).mono ?_
  rintro e w2 ⟨rfl, HR2, HB2⟩
  have HB3 : Hid (Bt q w w2) := HB0.out.trans HB2.out
  clear HB0 HB2 HR0 HX0 c0
  go_wp2_with fail
  go_ret
  exact ⟨_, rfl, rfl, HR2, HB3⟩
set_option maxHeartbeats 8000000 in
theorem msg14 {q : Nat} {r r1 r2 : Rd} {a b : Int} (h1 : rInt r = (r1, a)) (h2 : rInt r1 = (r2, b)) (w : World) (hR : Rm w q r)  : Calls Tryz.prog 56 #[.agg #[.pointer (some ⟨q, 0, none⟩)], .int .i64 14] w (MsP q r2 (fun W v => v = .iface 96 (.agg #[.int .i64 a, .int .i64 b])) w) := by
  have HX0 : Hid (Bx (w.alloc (.cells #[.pointer (some ⟨q, 0, none⟩)] 133)) w.heap.size #[.pointer (some ⟨q, 0, none⟩)] 133) := Bx.new _ _ _
  have HR0 : Hid (Rm (w.alloc (.cells #[.pointer (some ⟨q, 0, none⟩)] 133)) q r) := hR.keep (below_a _ _)
  have HB0 : Hid (Bt q w (w.alloc (.cells #[.pointer (some ⟨q, 0, none⟩)] 133))) := Bt.of_below (below_a w _)
  have hdq : w.heap.size ≠ q := Nat.ne_of_gt hR.lt
  have hqs : q < w.heap.size := hR.lt
  clear hR
  go_enter Tryz.func56, Tryz.ntmps56
  go_upto_region 1 with fail
  generalize (w.alloc (.cells #[.pointer (some ⟨q, 0, none⟩)] 133)) = w1 at *
  go_wp2_with fail
  refine wp_region_held (S := fun W => Bx W w.heap.size #[.pointer (some ⟨q, 0, none⟩)] 133 ∧ Bt q w W) (by kernel_rfl) ?_
  change wpAnyH _ _ _ _ _ 9 #[false, false, false, false, false, false, false, false, false] _ w1.drew
  have hS0 : Bx w1.drew w.heap.size #[.pointer (some ⟨q, 0, none⟩)] 133 ∧ Bt q w w1.drew := ⟨HX0.out, HB0.out.drewN 1⟩
  have hR0 : Rm w1.drew q r := HR0.out.drewN 1
  clear HX0 HB0 HR0
  obtain ⟨v0, hv0⟩ : ∃ v, v = w1.drew := ⟨_, rfl⟩
  rw [← hv0] at hS0 hR0 ⊢
  clear hv0
  refine takeR (fuel := 8) (i := 0) (v := .pointer (some ⟨w.heap.size, 0, none⟩)) rfl (by kernel_rfl) (by kernel_rfl) (by kernel_rfl) (fun _ _ _ h => h) (Or.inl ⟨rfl, fun W hW => by go_simp⟩) hS0 ?_
  simp only [Act.put, List.setIfInBounds_toArray, List.set_cons_zero, List.set_cons_succ]
  refine takeR (fuel := 7) (i := 1) (v := .pointer (some ⟨q, 0, none⟩)) rfl (by kernel_rfl) (by kernel_rfl) (by kernel_rfl) (fun _ _ _ h => h) (Or.inl ⟨rfl, fun W hW => by have cj := (hW.1.cell 0 : W.cell? ⟨w.heap.size, 0, none⟩ = some (.pointer (some ⟨q, 0, none⟩))); go_simp⟩) hS0 ?_
  simp only [Act.put, List.setIfInBounds_toArray, List.set_cons_zero, List.set_cons_succ]
  refine takeR (fuel := 6) (i := 3) (v := .pointer (some ⟨w.heap.size, 0, none⟩)) rfl (by kernel_rfl) (by kernel_rfl) (by kernel_rfl) (fun _ _ _ h => h) (Or.inl ⟨rfl, fun W hW => by go_simp⟩) hS0 ?_
  simp only [Act.put, List.setIfInBounds_toArray, List.set_cons_zero, List.set_cons_succ]
  refine takeR (fuel := 5) (i := 4) (v := .pointer (some ⟨q, 0, none⟩)) rfl (by kernel_rfl) (by kernel_rfl) (by kernel_rfl) (fun _ _ _ h => h) (Or.inl ⟨rfl, fun W hW => by have cj := (hW.1.cell 0 : W.cell? ⟨w.heap.size, 0, none⟩ = some (.pointer (some ⟨q, 0, none⟩))); go_simp⟩) hS0 ?_
  simp only [Act.put, List.setIfInBounds_toArray, List.set_cons_zero, List.set_cons_succ]
  refine consR (fuel := 4) (i := 2) rfl (by kernel_rfl) (fun K hK => ?_)
  rw [if_pos (by rfl)]
  go_simp
  refine (cInt h1 _ hR0).mono ?_
  rintro e u1 ⟨rfl, HR1, hC1⟩
  refine hK.out _ _ ⟨hS0.1.bt hC1.out hdq, hS0.2.trans hC1.out⟩ (fun hS1 => ?_)
  clear hK
  try simp only [Act.put, List.setIfInBounds_toArray, List.set_cons_zero, List.set_cons_succ]
  have hR1 := HR1.out
  clear hS0 hR0 HR1
  refine consR (fuel := 3) (i := 5) rfl (by kernel_rfl) (fun K hK => ?_)
  rw [if_pos (by rfl)]
  go_simp
  refine (cInt h2 _ hR1).mono ?_
  rintro e u2 ⟨rfl, HR2, hC2⟩
  refine hK.out _ _ ⟨hS1.1.bt hC2.out hdq, hS1.2.trans hC2.out⟩ (fun hS2 => ?_)
  clear hK
  try simp only [Act.put, List.setIfInBounds_toArray, List.set_cons_zero, List.set_cons_succ]
  have hR2 := HR2.out
  clear hS1 hR1 HR2
  refine takeR (fuel := 2) (i := 6) (v := .agg #[.int .i64 a, .int .i64 b]) rfl (by kernel_rfl) (by kernel_rfl) (by kernel_rfl) (fun _ _ _ h => h) (Or.inl ⟨rfl, fun W hW => by go_simp⟩) hS2 ?_
  simp only [Act.put, List.setIfInBounds_toArray, List.set_cons_zero, List.set_cons_succ]
  refine takeR (fuel := 1) (i := 7) (v := .iface 96 (.agg #[.int .i64 a, .int .i64 b])) rfl (by kernel_rfl) (by kernel_rfl) (by kernel_rfl) (fun _ _ _ h => h) (Or.inl ⟨rfl, fun W hW => by go_simp⟩) hS2 ?_
  simp only [Act.put, List.setIfInBounds_toArray, List.set_cons_zero, List.set_cons_succ]
  refine takeR (fuel := 0) (i := 8) (v := .iface 96 (.agg #[.int .i64 a, .int .i64 b])) rfl (by kernel_rfl) (by kernel_rfl) (by kernel_rfl) (fun _ _ _ h => h) (Or.inl ⟨rfl, fun _ _ => rfl⟩) hS2 ?_
  simp only [Act.put, List.setIfInBounds_toArray, List.set_cons_zero, List.set_cons_succ]
  refine wpAnyH_done (by kernel_rfl) ?_ _
  have HRz : Hid (Rm u2 q r2) := hR2
  have HBz : Hid (Bt q w u2) := hS2.2
  clear hS2 hR2
  go_wp2_with fail
  go_ret
  exact ⟨_, rfl, rfl, HRz, HBz⟩
set_option maxHeartbeats 8000000 in
theorem msg15 {q : Nat} {r r1 r2 r3 : Rd} {a b c : Int} (h1 : rInt r = (r1, a)) (h2 : rInt r1 = (r2, b)) (h3 : rInt r2 = (r3, c)) (w : World) (hR : Rm w q r)  : Calls Tryz.prog 56 #[.agg #[.pointer (some ⟨q, 0, none⟩)], .int .i64 15] w (MsP q r3 (fun W v => v = .iface 98 (.agg #[.int .i64 a, .int .i64 b, .int .i64 c])) w) := by
  have HX0 : Hid (Bx (w.alloc (.cells #[.pointer (some ⟨q, 0, none⟩)] 133)) w.heap.size #[.pointer (some ⟨q, 0, none⟩)] 133) := Bx.new _ _ _
  have HR0 : Hid (Rm (w.alloc (.cells #[.pointer (some ⟨q, 0, none⟩)] 133)) q r) := hR.keep (below_a _ _)
  have HB0 : Hid (Bt q w (w.alloc (.cells #[.pointer (some ⟨q, 0, none⟩)] 133))) := Bt.of_below (below_a w _)
  have hdq : w.heap.size ≠ q := Nat.ne_of_gt hR.lt
  have hqs : q < w.heap.size := hR.lt
  clear hR
  go_enter Tryz.func56, Tryz.ntmps56
  go_upto_region 1 with fail
  generalize (w.alloc (.cells #[.pointer (some ⟨q, 0, none⟩)] 133)) = w1 at *
  go_wp2_with fail
  refine wp_region_held (S := fun W => Bx W w.heap.size #[.pointer (some ⟨q, 0, none⟩)] 133 ∧ Bt q w W) (by kernel_rfl) ?_
  change wpAnyH _ _ _ _ _ 12 #[false, false, false, false, false, false, false, false, false, false, false, false] _ w1.drew
  have hS0 : Bx w1.drew w.heap.size #[.pointer (some ⟨q, 0, none⟩)] 133 ∧ Bt q w w1.drew := ⟨HX0.out, HB0.out.drewN 1⟩
  have hR0 : Rm w1.drew q r := HR0.out.drewN 1
  clear HX0 HB0 HR0
  obtain ⟨v0, hv0⟩ : ∃ v, v = w1.drew := ⟨_, rfl⟩
  rw [← hv0] at hS0 hR0 ⊢
  clear hv0
  refine takeR (fuel := 11) (i := 0) (v := .pointer (some ⟨w.heap.size, 0, none⟩)) rfl (by kernel_rfl) (by kernel_rfl) (by kernel_rfl) (fun _ _ _ h => h) (Or.inl ⟨rfl, fun W hW => by go_simp⟩) hS0 ?_
  simp only [Act.put, List.setIfInBounds_toArray, List.set_cons_zero, List.set_cons_succ]
  refine takeR (fuel := 10) (i := 1) (v := .pointer (some ⟨q, 0, none⟩)) rfl (by kernel_rfl) (by kernel_rfl) (by kernel_rfl) (fun _ _ _ h => h) (Or.inl ⟨rfl, fun W hW => by have cj := (hW.1.cell 0 : W.cell? ⟨w.heap.size, 0, none⟩ = some (.pointer (some ⟨q, 0, none⟩))); go_simp⟩) hS0 ?_
  simp only [Act.put, List.setIfInBounds_toArray, List.set_cons_zero, List.set_cons_succ]
  refine takeR (fuel := 9) (i := 3) (v := .pointer (some ⟨w.heap.size, 0, none⟩)) rfl (by kernel_rfl) (by kernel_rfl) (by kernel_rfl) (fun _ _ _ h => h) (Or.inl ⟨rfl, fun W hW => by go_simp⟩) hS0 ?_
  simp only [Act.put, List.setIfInBounds_toArray, List.set_cons_zero, List.set_cons_succ]
  refine takeR (fuel := 8) (i := 4) (v := .pointer (some ⟨q, 0, none⟩)) rfl (by kernel_rfl) (by kernel_rfl) (by kernel_rfl) (fun _ _ _ h => h) (Or.inl ⟨rfl, fun W hW => by have cj := (hW.1.cell 0 : W.cell? ⟨w.heap.size, 0, none⟩ = some (.pointer (some ⟨q, 0, none⟩))); go_simp⟩) hS0 ?_
  simp only [Act.put, List.setIfInBounds_toArray, List.set_cons_zero, List.set_cons_succ]
  refine takeR (fuel := 7) (i := 6) (v := .pointer (some ⟨w.heap.size, 0, none⟩)) rfl (by kernel_rfl) (by kernel_rfl) (by kernel_rfl) (fun _ _ _ h => h) (Or.inl ⟨rfl, fun W hW => by go_simp⟩) hS0 ?_
  simp only [Act.put, List.setIfInBounds_toArray, List.set_cons_zero, List.set_cons_succ]
  refine takeR (fuel := 6) (i := 7) (v := .pointer (some ⟨q, 0, none⟩)) rfl (by kernel_rfl) (by kernel_rfl) (by kernel_rfl) (fun _ _ _ h => h) (Or.inl ⟨rfl, fun W hW => by have cj := (hW.1.cell 0 : W.cell? ⟨w.heap.size, 0, none⟩ = some (.pointer (some ⟨q, 0, none⟩))); go_simp⟩) hS0 ?_
  simp only [Act.put, List.setIfInBounds_toArray, List.set_cons_zero, List.set_cons_succ]
  refine consR (fuel := 5) (i := 2) rfl (by kernel_rfl) (fun K hK => ?_)
  rw [if_pos (by rfl)]
  go_simp
  refine (cInt h1 _ hR0).mono ?_
  rintro e u1 ⟨rfl, HR1, hC1⟩
  refine hK.out _ _ ⟨hS0.1.bt hC1.out hdq, hS0.2.trans hC1.out⟩ (fun hS1 => ?_)
  clear hK
  try simp only [Act.put, List.setIfInBounds_toArray, List.set_cons_zero, List.set_cons_succ]
  have hR1 := HR1.out
  clear hS0 hR0 HR1
  refine consR (fuel := 4) (i := 5) rfl (by kernel_rfl) (fun K hK => ?_)
  rw [if_pos (by rfl)]
  go_simp
  refine (cInt h2 _ hR1).mono ?_
  rintro e u2 ⟨rfl, HR2, hC2⟩
  refine hK.out _ _ ⟨hS1.1.bt hC2.out hdq, hS1.2.trans hC2.out⟩ (fun hS2 => ?_)
  clear hK
  try simp only [Act.put, List.setIfInBounds_toArray, List.set_cons_zero, List.set_cons_succ]
  have hR2 := HR2.out
  clear hS1 hR1 HR2
  refine consR (fuel := 3) (i := 8) rfl (by kernel_rfl) (fun K hK => ?_)
  rw [if_pos (by rfl)]
  go_simp
  refine (cInt h3 _ hR2).mono ?_
  rintro e u3 ⟨rfl, HR3, hC3⟩
  refine hK.out _ _ ⟨hS2.1.bt hC3.out hdq, hS2.2.trans hC3.out⟩ (fun hS3 => ?_)
  clear hK
  try simp only [Act.put, List.setIfInBounds_toArray, List.set_cons_zero, List.set_cons_succ]
  have hR3 := HR3.out
  clear hS2 hR2 HR3
  refine takeR (fuel := 2) (i := 9) (v := .agg #[.int .i64 a, .int .i64 b, .int .i64 c]) rfl (by kernel_rfl) (by kernel_rfl) (by kernel_rfl) (fun _ _ _ h => h) (Or.inl ⟨rfl, fun W hW => by go_simp⟩) hS3 ?_
  simp only [Act.put, List.setIfInBounds_toArray, List.set_cons_zero, List.set_cons_succ]
  refine takeR (fuel := 1) (i := 10) (v := .iface 98 (.agg #[.int .i64 a, .int .i64 b, .int .i64 c])) rfl (by kernel_rfl) (by kernel_rfl) (by kernel_rfl) (fun _ _ _ h => h) (Or.inl ⟨rfl, fun W hW => by go_simp⟩) hS3 ?_
  simp only [Act.put, List.setIfInBounds_toArray, List.set_cons_zero, List.set_cons_succ]
  refine takeR (fuel := 0) (i := 11) (v := .iface 98 (.agg #[.int .i64 a, .int .i64 b, .int .i64 c])) rfl (by kernel_rfl) (by kernel_rfl) (by kernel_rfl) (fun _ _ _ h => h) (Or.inl ⟨rfl, fun _ _ => rfl⟩) hS3 ?_
  simp only [Act.put, List.setIfInBounds_toArray, List.set_cons_zero, List.set_cons_succ]
  refine wpAnyH_done (by kernel_rfl) ?_ _
  have HRz : Hid (Rm u3 q r3) := hR3
  have HBz : Hid (Bt q w u3) := hS3.2
  clear hS3 hR3
  go_wp2_with fail
  go_ret
  exact ⟨_, rfl, rfl, HRz, HBz⟩
theorem msg0 {q : Nat} {r : Rd} (k : Int) (hk : inn k 1 15 = false) (w : World) (hR : Rm w q r) : Calls Tryz.prog 56 #[.agg #[.pointer (some ⟨q, 0, none⟩)], .int .i64 k] w (MsP q r (fun W v => v = .nilIface) w) := by
  have hk2 : ¬ (1 ≤ k ∧ k ≤ 15) := by unfold inn at hk; rw [Bool.and_eq_false_iff, decide_eq_false_iff_not, decide_eq_false_iff_not] at hk; omega
  have q1 : (k == 1) = false := by rw [beq_eq_false_iff_ne]; omega
  have q2 : (k == 2) = false := by rw [beq_eq_false_iff_ne]; omega
  have q3 : (k == 3) = false := by rw [beq_eq_false_iff_ne]; omega
  have q4 : (k == 4) = false := by rw [beq_eq_false_iff_ne]; omega
  have q5 : (k == 5) = false := by rw [beq_eq_false_iff_ne]; omega
  have q6 : (k == 6) = false := by rw [beq_eq_false_iff_ne]; omega
  have q7 : (k == 7) = false := by rw [beq_eq_false_iff_ne]; omega
  have q8 : (k == 8) = false := by rw [beq_eq_false_iff_ne]; omega
  have q9 : (k == 9) = false := by rw [beq_eq_false_iff_ne]; omega
  have q10 : (k == 10) = false := by rw [beq_eq_false_iff_ne]; omega
  have q11 : (k == 11) = false := by rw [beq_eq_false_iff_ne]; omega
  have q12 : (k == 12) = false := by rw [beq_eq_false_iff_ne]; omega
  have q13 : (k == 13) = false := by rw [beq_eq_false_iff_ne]; omega
  have q14 : (k == 14) = false := by rw [beq_eq_false_iff_ne]; omega
  have q15 : (k == 15) = false := by rw [beq_eq_false_iff_ne]; omega
  clear hk hk2
  have HX0 : Hid (Bx (w.alloc (.cells #[.pointer (some ⟨q, 0, none⟩)] 133)) w.heap.size #[.pointer (some ⟨q, 0, none⟩)] 133) := Bx.new _ _ _
  have HR0 : Hid (Rm (w.alloc (.cells #[.pointer (some ⟨q, 0, none⟩)] 133)) q r) := hR.keep (below_a _ _)
  have HB0 : Hid (Bt q w (w.alloc (.cells #[.pointer (some ⟨q, 0, none⟩)] 133))) := Bt.of_below (below_a w _)
  have hdq : w.heap.size ≠ q := Nat.ne_of_gt hR.lt
  have hqs : q < w.heap.size := hR.lt
  clear hR
  go_enter Tryz.func56, Tryz.ntmps56
  go_upto_region 1 with fail
  generalize (w.alloc (.cells #[.pointer (some ⟨q, 0, none⟩)] 133)) = w1 at *
  go_wp2_with fail
  go_ret
  exact ⟨_, rfl, rfl, HR0, HB0⟩
end Go.Proofs.YtdmlgheajblcdaaGreat
