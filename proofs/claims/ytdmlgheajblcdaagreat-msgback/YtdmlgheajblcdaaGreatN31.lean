/- Layer 10: parts of messages read. -/
import Derived.Test.YtdmlgheajblcdaaGreatN29
import Derived.WalkKit
import Derived.ProofKit
import Derived.Handy
import Derived.WalkLawsBesides
import Derived.WalkSpells
import Derived.BigQuiet
import Derived.BigCall
import Derived.Deep.QuietTactic
import Derived.Deep.Light
import Derived.Deep.OwnRows
import Derived.Laws.AppendOwnNone
import Derived.Laws.Strings3
import Derived.Laws.RangeAny
import Derived.Deep.RegionWith
import Derived.Lib.BitFns
import Derived.Lib.Walk
import Derived.Lib.Strings
import Derived.Lib.OthersKept
import Derived.Deep.CutBlock
import Derived.Deep.DeepCutAuto
import Derived.Deep.LoopGhost
import Derived.Deep.RegionHeld3
import Derived.Lib.SmallJoins
import Derived.Maps.AppendAt
import Derived.Laws.IdiomStrings
import Derived.Lib.AppendZeros
import Derived.Deep.WholeRow
import Derived.Laws.BitsAllLaws
import Derived.Lib.ConvBytes
import Derived.Deep.RegionLaw
namespace Go.Proofs.YtdmlgheajblcdaaGreat
open Go.RowKit
set_option linter.unusedVariables false
set_option linter.unusedSimpArgs false
set_option maxRecDepth 100000
theorem Bx.bt {q : Nat} {w w' : World} {b : Nat} {cs : Array Value} {T : Nat} (h : Bx w b cs T) (hb : Bt q w w') (hn : b ≠ q) : Bx w' b cs T := hb.other h hn
theorem Bt.setRow {q g : Nat} {w w' : World} {M : Array Value} (h : Bt q w w') (hg : w.heap.size ≤ g) : Bt q w (w'.setRow g M) :=
  ⟨h.os, h.tape, h.output, by have := h.size; simpa [World.setRow] using this, fun k hk hn => (setRow_other w' g k M (by omega)).trans (h.block k hk hn)⟩
theorem Rm.setRow {q g : Nat} {w : World} {r : Rd} {M : Array Value} (h : Rm w q r) (hg : q ≠ g) : Rm (w.setRow g M) q r := h.same (setRow_other w g q M hg)
theorem loadR23 (w : World) (g : Nat) (M : Array Value) (hg : Bx w g M 23) (hs : M.size = 5) : (loadVar 23 ⟨g, 0, none⟩).run Tryz.prog w = .ok (.agg M) w :=
  run_loadVar_row w g 23 23 _ (0, 0) _ hg Tryz.underlying23 rfl (by rw [hs]; exact info23)
theorem loadR27 (w : World) (g : Nat) (M : Array Value) (hg : Bx w g M 27) (hs : M.size = 10) : (loadVar 27 ⟨g, 0, none⟩).run Tryz.prog w = .ok (.agg M) w :=
  run_loadVar_row w g 27 27 _ (0, 0) _ hg Tryz.underlying27 rfl (by rw [hs]; exact info27)
theorem loadR30 (w : World) (g : Nat) (M : Array Value) (hg : Bx w g M 30) (hs : M.size = 8) : (loadVar 30 ⟨g, 0, none⟩).run Tryz.prog w = .ok (.agg M) w :=
  run_loadVar_row w g 30 30 _ (0, 0) _ hg Tryz.underlying30 rfl (by rw [hs]; exact info30)
theorem fr_of {α β : Type} {x : α × β} {a : α} {b : β} (h : x = (a, b)) : x.1 = a ∧ x.2 = b := by rw [h]; exact ⟨rfl, rfl⟩
theorem cInt {q : Nat} {r r1 : Rd} {a : Int} (h : rInt r = (r1, a)) (w : World) (hR : Rm w q r) : Calls Tryz.prog 57 #[.pointer (some ⟨q, 0, none⟩)] w (RP q (.int .i64 a) r1 w) := by have := xint q r w hR; rw [h] at this; exact this
theorem cBool {q : Nat} {r r1 : Rd} {a : Bool} (h : rBool r = (r1, a)) (w : World) (hR : Rm w q r) : Calls Tryz.prog 87 #[.pointer (some ⟨q, 0, none⟩)] w (RP q (.bool a) r1 w) := by have := xbool q r w hR; rw [h] at this; exact this
theorem cText {q : Nat} {r r1 : Rd} {m : Int} {a : List UInt8} (hm : I64 m) (h : rText r m = (r1, a)) (w : World) (hR : Rm w q r) (hs : r.s.length ≤ 281474976710656) : Calls Tryz.prog 79 #[.pointer (some ⟨q, 0, none⟩), .int .i64 m] w (RP q (.string ⟨a.toArray⟩) r1 w) := by have := xtext q r m hm w hR hs; rw [h] at this; exact this
theorem cCount {q : Nat} {r r1 : Rd} {m : Int} {a : Nat} (hm : I64 m) (h : rCount r m = (r1, a)) (w : World) (hR : Rm w q r) : Calls Tryz.prog 112 #[.pointer (some ⟨q, 0, none⟩), .int .i64 m] w (RP q (.int .i64 a) r1 w) := by have := xcount q r m hm w hR; rw [h] at this; exact this
theorem cInts {q : Nat} {r r1 : Rd} {m : Int} {a : List Int} (hm : I64 m) (h : rInts r m = (r1, a)) (w : World) (hR : Rm w q r) (hs : r.s.length ≤ 1099511627776) : Calls Tryz.prog 111 #[.pointer (some ⟨q, 0, none⟩), .int .i64 m] w (IsP q a r1 w) := by have := xints q r m hm w hR hs; rw [h] at this; exact this
theorem xcode {q : Nat} {r r1 : Rd} {a : List UInt8} (h : rText r 12 = (r1, a)) (w : World) (hR : Rm w q r) (hs : r.s.length ≤ 281474976710656) : Calls Tryz.prog 83 #[.agg #[.pointer (some ⟨q, 0, none⟩)]] w (RP q (.string ⟨a.toArray⟩) r1 w) := by
  have HX0 : Hid (Bx (w.alloc (.cells #[.pointer (some ⟨q, 0, none⟩)] 133)) w.heap.size #[.pointer (some ⟨q, 0, none⟩)] 133) := Bx.new _ _ _
  have HR0 : Hid (Rm (w.alloc (.cells #[.pointer (some ⟨q, 0, none⟩)] 133)) q r) := hR.keep (below_a _ _)
  have HB0 : Hid (Bt q w (w.alloc (.cells #[.pointer (some ⟨q, 0, none⟩)] 133))) := Bt.of_below (below_a w _)
  have hdq : w.heap.size ≠ q := Nat.ne_of_gt hR.lt
  have hqs : q < w.heap.size := hR.lt
  clear hR
  go_enter Tryz.func83, Tryz.ntmps83
  go_upto_region 1 with fail
  generalize (w.alloc (.cells #[.pointer (some ⟨q, 0, none⟩)] 133)) = w1 at *
  have c0 : w1.cell? ⟨w.heap.size, 0, none⟩ = some (.pointer (some ⟨q, 0, none⟩)) := HX0.out.cell 0
  go_wp2_with fail
  refine (cText ⟨by decide, by decide⟩ h _ HR0.out hs).mono ?_
  rintro e w2 ⟨rfl, HR2, HB2⟩
  have HB3 : Hid (Bt q w w2) := HB0.out.trans HB2.out
  clear HB0 HB2 HR0 HX0 c0
  go_wp2_with fail
  go_ret
  exact ⟨rfl, HR2, HB3⟩
set_option maxHeartbeats 4000000 in
theorem xlotR {q : Nat} {r r1 r2 : Rd} {a : List UInt8} {b : Int} (h1 : rText r 12 = (r1, a)) (h2 : rInt r1 = (r2, b)) (w : World) (hR : Rm w q r) (hs : r.s.length ≤ 281474976710656) : Calls Tryz.prog 85 #[.agg #[.pointer (some ⟨q, 0, none⟩)]] w (RP q (.agg #[.string ⟨a.toArray⟩, .int .i64 b]) r2 w) := by
  have HX0 : Hid (Bx ((w.alloc (.cells #[.pointer (some ⟨q, 0, none⟩)] 133)).alloc (.cells #[.string ⟨#[]⟩, .int .i64 0] 32)) w.heap.size #[.pointer (some ⟨q, 0, none⟩)] 133) := (Bx.new w _ _).keep (below_a _ _)
  have HY0 : Hid (Bx ((w.alloc (.cells #[.pointer (some ⟨q, 0, none⟩)] 133)).alloc (.cells #[.string ⟨#[]⟩, .int .i64 0] 32)) (w.heap.size + 1) #[.string ⟨#[]⟩, .int .i64 0] 32) := by have := Bx.new (w.alloc (.cells #[.pointer (some ⟨q, 0, none⟩)] 133)) #[.string ⟨#[]⟩, .int .i64 0] 32; rwa [size_a] at this
  have HR0 : Hid (Rm ((w.alloc (.cells #[.pointer (some ⟨q, 0, none⟩)] 133)).alloc (.cells #[.string ⟨#[]⟩, .int .i64 0] 32)) q r) := (hR.keep (below_a _ _)).keep (below_a _ _)
  have HB0 : Hid (Bt q w ((w.alloc (.cells #[.pointer (some ⟨q, 0, none⟩)] 133)).alloc (.cells #[.string ⟨#[]⟩, .int .i64 0] 32))) := Bt.of_below (bt (below_a w _) (below_a _ _))
  have hdq : w.heap.size ≠ q := Nat.ne_of_gt hR.lt
  have hqs : q < w.heap.size := hR.lt
  clear hR
  go_enter Tryz.func85, Tryz.ntmps85
  go_upto_region 1 with fail
  generalize ((w.alloc (.cells #[.pointer (some ⟨q, 0, none⟩)] 133)).alloc (.cells #[.string ⟨#[]⟩, .int .i64 0] 32)) = w1 at *
  go_wp2_with fail
  refine wp_region_held (S := fun W => Bx W w.heap.size #[.pointer (some ⟨q, 0, none⟩)] 133 ∧ Bt q w W) (by kernel_rfl) ?_
  change wpAnyH _ _ _ _ _ 7 #[false, false, false, false, false, false, false] _ w1.drew
  have hS0 : Bx w1.drew w.heap.size #[.pointer (some ⟨q, 0, none⟩)] 133 ∧ Bt q w w1.drew := ⟨HX0.out, HB0.out.drewN 1⟩
  have hR0 : Rm w1.drew q r := HR0.out.drewN 1
  have hY0 : Bx w1.drew (w.heap.size + 1) #[.string ⟨#[]⟩, .int .i64 0] 32 := HY0.out
  clear HY0
  clear HX0 HB0 HR0
  obtain ⟨v0, hv0⟩ : ∃ v, v = w1.drew := ⟨_, rfl⟩
  rw [← hv0] at hS0 hR0 hY0 ⊢
  clear hv0
  refine takeR (fuel := 6) (i := 0) (v := .agg #[.pointer (some ⟨q, 0, none⟩)]) rfl (by kernel_rfl) (by kernel_rfl) (by kernel_rfl) (fun _ _ _ h => h) (Or.inl ⟨rfl, fun W hW => by have cj := (hW.1.cell 0 : W.cell? ⟨w.heap.size, 0, none⟩ = some (.pointer (some ⟨q, 0, none⟩))); go_simp⟩) hS0 ?_
  simp only [Act.put, List.setIfInBounds_toArray, List.set_cons_zero, List.set_cons_succ]
  refine takeR (fuel := 5) (i := 2) (v := .pointer (some ⟨w.heap.size, 0, none⟩)) rfl (by kernel_rfl) (by kernel_rfl) (by kernel_rfl) (fun _ _ _ h => h) (Or.inl ⟨rfl, fun W hW => by go_simp⟩) hS0 ?_
  simp only [Act.put, List.setIfInBounds_toArray, List.set_cons_zero, List.set_cons_succ]
  refine takeR (fuel := 4) (i := 3) (v := .pointer (some ⟨q, 0, none⟩)) rfl (by kernel_rfl) (by kernel_rfl) (by kernel_rfl) (fun _ _ _ h => h) (Or.inl ⟨rfl, fun W hW => by have cj := (hW.1.cell 0 : W.cell? ⟨w.heap.size, 0, none⟩ = some (.pointer (some ⟨q, 0, none⟩))); go_simp⟩) hS0 ?_
  simp only [Act.put, List.setIfInBounds_toArray, List.set_cons_zero, List.set_cons_succ]
  refine consR (fuel := 3) (i := 1) rfl (by kernel_rfl) (fun K hK => ?_)
  rw [if_pos (by rfl)]
  go_simp
  refine (xcode h1 _ hR0 hs).mono ?_
  rintro e u1 ⟨rfl, HR1, hC1⟩
  refine hK.out _ _ ⟨hS0.1.bt hC1.out hdq, hS0.2.trans hC1.out⟩ (fun hS1 => ?_)
  clear hK
  try simp only [Act.put, List.setIfInBounds_toArray, List.set_cons_zero, List.set_cons_succ]
  have hR1 := HR1.out
  have hY1 := hY0.bt hC1.out (by omega)
  clear hS0 hR0 HR1 hY0
  refine consR (fuel := 2) (i := 4) rfl (by kernel_rfl) (fun K hK => ?_)
  rw [if_pos (by rfl)]
  go_simp
  refine (cInt h2 _ hR1).mono ?_
  rintro e u2 ⟨rfl, HR2, hC2⟩
  refine hK.out _ _ ⟨hS1.1.bt hC2.out hdq, hS1.2.trans hC2.out⟩ (fun hS2 => ?_)
  clear hK
  try simp only [Act.put, List.setIfInBounds_toArray, List.set_cons_zero, List.set_cons_succ]
  have hR2 := HR2.out
  have hY2 := hY1.bt hC2.out (by omega)
  clear hS1 hR1 HR2 hY1
  refine takeR (fuel := 1) (i := 5) (v := .agg #[.string ⟨a.toArray⟩, .int .i64 b]) rfl (by kernel_rfl) (by kernel_rfl) (by kernel_rfl) (fun _ _ _ h => h) (Or.inl ⟨rfl, fun W hW => by go_simp⟩) hS2 ?_
  simp only [Act.put, List.setIfInBounds_toArray, List.set_cons_zero, List.set_cons_succ]
  refine consR (fuel := 0) (i := 6) rfl (by kernel_rfl) (fun K hK => ?_)
  rw [if_pos (by rfl)]
  refine ow_store _ _ 32 _ _ rfl _ _ rfl rfl (storeT _ (w.heap.size + 1) _ #[.string ⟨a.toArray⟩, .int .i64 b] info32' hY2 rfl rfl (by simp [Value.oneCell'])) ?_
  refine hK.out _ _ ⟨hS2.1.other (by omega), hS2.2.setRow (by omega)⟩ (fun hSz => ?_)
  clear hK
  try simp only [Act.put, List.setIfInBounds_toArray, List.set_cons_zero, List.set_cons_succ]
  have hld := loadR32 (u2.setRow (w.heap.size + 1) #[.string ⟨a.toArray⟩, .int .i64 b]) (w.heap.size + 1) #[.string ⟨a.toArray⟩, .int .i64 b] hY2.set rfl
  have HRz : Hid (Rm (u2.setRow (w.heap.size + 1) #[.string ⟨a.toArray⟩, .int .i64 b]) q r2) := hR2.setRow (by omega)
  have HBz : Hid (Bt q w (u2.setRow (w.heap.size + 1) #[.string ⟨a.toArray⟩, .int .i64 b])) := hSz.2
  refine wpAnyH_done (by kernel_rfl) ?_ _
  go_wp2_with fail
  refine bodyPost_ret (res_cell _ _ 2 32 _ _ _ rfl rfl hld) rfl ?_
  exact ⟨rfl, HRz, HBz⟩
set_option maxHeartbeats 4000000 in
theorem xassetR {q : Nat} {r r1 r2 r3 r4 r5 : Rd} {a : List UInt8} {b c d : Int} {e0 : List UInt8} (h1 : rText r 12 = (r1, a)) (h2 : rInt r1 = (r2, b)) (h3 : rInt r2 = (r3, c)) (h4 : rInt r3 = (r4, d)) (h5 : rText r4 12 = (r5, e0)) (w : World) (hR : Rm w q r) (hs : r.s.length ≤ 281474976710656) (hs4 : r4.s.length ≤ 281474976710656) : Calls Tryz.prog 80 #[.agg #[.pointer (some ⟨q, 0, none⟩)]] w (RP q (.agg #[.string ⟨a.toArray⟩, .int .i64 b, .int .i64 c, .int .i64 d, .string ⟨e0.toArray⟩]) r5 w) := by
  have HX0 : Hid (Bx ((w.alloc (.cells #[.pointer (some ⟨q, 0, none⟩)] 133)).alloc (.cells #[.string ⟨#[]⟩, .int .i64 0, .int .i64 0, .int .i64 0, .string ⟨#[]⟩] 23)) w.heap.size #[.pointer (some ⟨q, 0, none⟩)] 133) := (Bx.new w _ _).keep (below_a _ _)
  have HY0 : Hid (Bx ((w.alloc (.cells #[.pointer (some ⟨q, 0, none⟩)] 133)).alloc (.cells #[.string ⟨#[]⟩, .int .i64 0, .int .i64 0, .int .i64 0, .string ⟨#[]⟩] 23)) (w.heap.size + 1) #[.string ⟨#[]⟩, .int .i64 0, .int .i64 0, .int .i64 0, .string ⟨#[]⟩] 23) := by have := Bx.new (w.alloc (.cells #[.pointer (some ⟨q, 0, none⟩)] 133)) #[.string ⟨#[]⟩, .int .i64 0, .int .i64 0, .int .i64 0, .string ⟨#[]⟩] 23; rwa [size_a] at this
  have HR0 : Hid (Rm ((w.alloc (.cells #[.pointer (some ⟨q, 0, none⟩)] 133)).alloc (.cells #[.string ⟨#[]⟩, .int .i64 0, .int .i64 0, .int .i64 0, .string ⟨#[]⟩] 23)) q r) := (hR.keep (below_a _ _)).keep (below_a _ _)
  have HB0 : Hid (Bt q w ((w.alloc (.cells #[.pointer (some ⟨q, 0, none⟩)] 133)).alloc (.cells #[.string ⟨#[]⟩, .int .i64 0, .int .i64 0, .int .i64 0, .string ⟨#[]⟩] 23))) := Bt.of_below (bt (below_a w _) (below_a _ _))
  have hdq : w.heap.size ≠ q := Nat.ne_of_gt hR.lt
  have hqs : q < w.heap.size := hR.lt
  clear hR
  go_enter Tryz.func80, Tryz.ntmps80
  go_upto_region 1 with fail
  generalize ((w.alloc (.cells #[.pointer (some ⟨q, 0, none⟩)] 133)).alloc (.cells #[.string ⟨#[]⟩, .int .i64 0, .int .i64 0, .int .i64 0, .string ⟨#[]⟩] 23)) = w1 at *
  go_wp2_with fail
  refine wp_region_held (S := fun W => Bx W w.heap.size #[.pointer (some ⟨q, 0, none⟩)] 133 ∧ Bt q w W) (by kernel_rfl) ?_
  change wpAnyH _ _ _ _ _ 15 #[false, false, false, false, false, false, false, false, false, false, false, false, false, false, false] _ w1.drew
  have hS0 : Bx w1.drew w.heap.size #[.pointer (some ⟨q, 0, none⟩)] 133 ∧ Bt q w w1.drew := ⟨HX0.out, HB0.out.drewN 1⟩
  have hR0 : Rm w1.drew q r := HR0.out.drewN 1
  have hY0 : Bx w1.drew (w.heap.size + 1) #[.string ⟨#[]⟩, .int .i64 0, .int .i64 0, .int .i64 0, .string ⟨#[]⟩] 23 := HY0.out
  clear HY0
  clear HX0 HB0 HR0
  obtain ⟨v0, hv0⟩ : ∃ v, v = w1.drew := ⟨_, rfl⟩
  rw [← hv0] at hS0 hR0 hY0 ⊢
  clear hv0
  refine takeR (fuel := 14) (i := 0) (v := .agg #[.pointer (some ⟨q, 0, none⟩)]) rfl (by kernel_rfl) (by kernel_rfl) (by kernel_rfl) (fun _ _ _ h => h) (Or.inl ⟨rfl, fun W hW => by have cj := (hW.1.cell 0 : W.cell? ⟨w.heap.size, 0, none⟩ = some (.pointer (some ⟨q, 0, none⟩))); go_simp⟩) hS0 ?_
  simp only [Act.put, List.setIfInBounds_toArray, List.set_cons_zero, List.set_cons_succ]
  refine takeR (fuel := 13) (i := 2) (v := .pointer (some ⟨w.heap.size, 0, none⟩)) rfl (by kernel_rfl) (by kernel_rfl) (by kernel_rfl) (fun _ _ _ h => h) (Or.inl ⟨rfl, fun W hW => by go_simp⟩) hS0 ?_
  simp only [Act.put, List.setIfInBounds_toArray, List.set_cons_zero, List.set_cons_succ]
  refine takeR (fuel := 12) (i := 3) (v := .pointer (some ⟨q, 0, none⟩)) rfl (by kernel_rfl) (by kernel_rfl) (by kernel_rfl) (fun _ _ _ h => h) (Or.inl ⟨rfl, fun W hW => by have cj := (hW.1.cell 0 : W.cell? ⟨w.heap.size, 0, none⟩ = some (.pointer (some ⟨q, 0, none⟩))); go_simp⟩) hS0 ?_
  simp only [Act.put, List.setIfInBounds_toArray, List.set_cons_zero, List.set_cons_succ]
  refine takeR (fuel := 11) (i := 5) (v := .pointer (some ⟨w.heap.size, 0, none⟩)) rfl (by kernel_rfl) (by kernel_rfl) (by kernel_rfl) (fun _ _ _ h => h) (Or.inl ⟨rfl, fun W hW => by go_simp⟩) hS0 ?_
  simp only [Act.put, List.setIfInBounds_toArray, List.set_cons_zero, List.set_cons_succ]
  refine takeR (fuel := 10) (i := 6) (v := .pointer (some ⟨q, 0, none⟩)) rfl (by kernel_rfl) (by kernel_rfl) (by kernel_rfl) (fun _ _ _ h => h) (Or.inl ⟨rfl, fun W hW => by have cj := (hW.1.cell 0 : W.cell? ⟨w.heap.size, 0, none⟩ = some (.pointer (some ⟨q, 0, none⟩))); go_simp⟩) hS0 ?_
  simp only [Act.put, List.setIfInBounds_toArray, List.set_cons_zero, List.set_cons_succ]
  refine takeR (fuel := 9) (i := 8) (v := .pointer (some ⟨w.heap.size, 0, none⟩)) rfl (by kernel_rfl) (by kernel_rfl) (by kernel_rfl) (fun _ _ _ h => h) (Or.inl ⟨rfl, fun W hW => by go_simp⟩) hS0 ?_
  simp only [Act.put, List.setIfInBounds_toArray, List.set_cons_zero, List.set_cons_succ]
  refine takeR (fuel := 8) (i := 9) (v := .pointer (some ⟨q, 0, none⟩)) rfl (by kernel_rfl) (by kernel_rfl) (by kernel_rfl) (fun _ _ _ h => h) (Or.inl ⟨rfl, fun W hW => by have cj := (hW.1.cell 0 : W.cell? ⟨w.heap.size, 0, none⟩ = some (.pointer (some ⟨q, 0, none⟩))); go_simp⟩) hS0 ?_
  simp only [Act.put, List.setIfInBounds_toArray, List.set_cons_zero, List.set_cons_succ]
  refine takeR (fuel := 7) (i := 11) (v := .agg #[.pointer (some ⟨q, 0, none⟩)]) rfl (by kernel_rfl) (by kernel_rfl) (by kernel_rfl) (fun _ _ _ h => h) (Or.inl ⟨rfl, fun W hW => by have cj := (hW.1.cell 0 : W.cell? ⟨w.heap.size, 0, none⟩ = some (.pointer (some ⟨q, 0, none⟩))); go_simp⟩) hS0 ?_
  simp only [Act.put, List.setIfInBounds_toArray, List.set_cons_zero, List.set_cons_succ]
  refine consR (fuel := 6) (i := 1) rfl (by kernel_rfl) (fun K hK => ?_)
  rw [if_pos (by rfl)]
  go_simp
  refine (xcode h1 _ hR0 hs).mono ?_
  rintro e u1 ⟨rfl, HR1, hC1⟩
  refine hK.out _ _ ⟨hS0.1.bt hC1.out hdq, hS0.2.trans hC1.out⟩ (fun hS1 => ?_)
  clear hK
  try simp only [Act.put, List.setIfInBounds_toArray, List.set_cons_zero, List.set_cons_succ]
  have hR1 := HR1.out
  have hY1 := hY0.bt hC1.out (by omega)
  clear hS0 hR0 HR1 hY0
  refine consR (fuel := 5) (i := 4) rfl (by kernel_rfl) (fun K hK => ?_)
  rw [if_pos (by rfl)]
  go_simp
  refine (cInt h2 _ hR1).mono ?_
  rintro e u2 ⟨rfl, HR2, hC2⟩
  refine hK.out _ _ ⟨hS1.1.bt hC2.out hdq, hS1.2.trans hC2.out⟩ (fun hS2 => ?_)
  clear hK
  try simp only [Act.put, List.setIfInBounds_toArray, List.set_cons_zero, List.set_cons_succ]
  have hR2 := HR2.out
  have hY2 := hY1.bt hC2.out (by omega)
  clear hS1 hR1 HR2 hY1
  refine consR (fuel := 4) (i := 7) rfl (by kernel_rfl) (fun K hK => ?_)
  rw [if_pos (by rfl)]
  go_simp
  refine (cInt h3 _ hR2).mono ?_
  rintro e u3 ⟨rfl, HR3, hC3⟩
  refine hK.out _ _ ⟨hS2.1.bt hC3.out hdq, hS2.2.trans hC3.out⟩ (fun hS3 => ?_)
  clear hK
  try simp only [Act.put, List.setIfInBounds_toArray, List.set_cons_zero, List.set_cons_succ]
  have hR3 := HR3.out
  have hY3 := hY2.bt hC3.out (by omega)
  clear hS2 hR2 HR3 hY2
  refine consR (fuel := 3) (i := 10) rfl (by kernel_rfl) (fun K hK => ?_)
  rw [if_pos (by rfl)]
  go_simp
  refine (cInt h4 _ hR3).mono ?_
  rintro e u4 ⟨rfl, HR4, hC4⟩
  refine hK.out _ _ ⟨hS3.1.bt hC4.out hdq, hS3.2.trans hC4.out⟩ (fun hS4 => ?_)
  clear hK
  try simp only [Act.put, List.setIfInBounds_toArray, List.set_cons_zero, List.set_cons_succ]
  have hR4 := HR4.out
  have hY4 := hY3.bt hC4.out (by omega)
  clear hS3 hR3 HR4 hY3
  refine consR (fuel := 2) (i := 12) rfl (by kernel_rfl) (fun K hK => ?_)
  rw [if_pos (by rfl)]
  go_simp
  refine (xcode h5 _ hR4 hs4).mono ?_
  rintro e u5 ⟨rfl, HR5, hC5⟩
  refine hK.out _ _ ⟨hS4.1.bt hC5.out hdq, hS4.2.trans hC5.out⟩ (fun hS5 => ?_)
  clear hK
  try simp only [Act.put, List.setIfInBounds_toArray, List.set_cons_zero, List.set_cons_succ]
  have hR5 := HR5.out
  have hY5 := hY4.bt hC5.out (by omega)
  clear hS4 hR4 HR5 hY4
  refine takeR (fuel := 1) (i := 13) (v := .agg #[.string ⟨a.toArray⟩, .int .i64 b, .int .i64 c, .int .i64 d, .string ⟨e0.toArray⟩]) rfl (by kernel_rfl) (by kernel_rfl) (by kernel_rfl) (fun _ _ _ h => h) (Or.inl ⟨rfl, fun W hW => by go_simp⟩) hS5 ?_
  simp only [Act.put, List.setIfInBounds_toArray, List.set_cons_zero, List.set_cons_succ]
  refine consR (fuel := 0) (i := 14) rfl (by kernel_rfl) (fun K hK => ?_)
  rw [if_pos (by rfl)]
  refine ow_store _ _ 23 _ _ rfl _ _ rfl rfl (storeT _ (w.heap.size + 1) _ #[.string ⟨a.toArray⟩, .int .i64 b, .int .i64 c, .int .i64 d, .string ⟨e0.toArray⟩] info23 hY5 rfl rfl (by simp [Value.oneCell'])) ?_
  refine hK.out _ _ ⟨hS5.1.other (by omega), hS5.2.setRow (by omega)⟩ (fun hSz => ?_)
  clear hK
  try simp only [Act.put, List.setIfInBounds_toArray, List.set_cons_zero, List.set_cons_succ]
  have hld := loadR23 (u5.setRow (w.heap.size + 1) #[.string ⟨a.toArray⟩, .int .i64 b, .int .i64 c, .int .i64 d, .string ⟨e0.toArray⟩]) (w.heap.size + 1) #[.string ⟨a.toArray⟩, .int .i64 b, .int .i64 c, .int .i64 d, .string ⟨e0.toArray⟩] hY5.set rfl
  have HRz : Hid (Rm (u5.setRow (w.heap.size + 1) #[.string ⟨a.toArray⟩, .int .i64 b, .int .i64 c, .int .i64 d, .string ⟨e0.toArray⟩]) q r5) := hR5.setRow (by omega)
  have HBz : Hid (Bt q w (u5.setRow (w.heap.size + 1) #[.string ⟨a.toArray⟩, .int .i64 b, .int .i64 c, .int .i64 d, .string ⟨e0.toArray⟩])) := hSz.2
  refine wpAnyH_done (by kernel_rfl) ?_ _
  go_wp2_with fail
  refine bodyPost_ret (res_cell _ _ 2 23 _ _ _ rfl rfl hld) rfl ?_
  exact ⟨rfl, HRz, HBz⟩
set_option maxHeartbeats 4000000 in
theorem xquoteR {q : Nat} {r r1 r2 r3 r4 r5 r6 r7 r8 : Rd} {a0 a1 a2 a3 a4 a5 a6 a7 : Int} (h0 : rInt r = (r1, a0)) (h1 : rInt r1 = (r2, a1)) (h2 : rInt r2 = (r3, a2)) (h3 : rInt r3 = (r4, a3)) (h4 : rInt r4 = (r5, a4)) (h5 : rInt r5 = (r6, a5)) (h6 : rInt r6 = (r7, a6)) (h7 : rInt r7 = (r8, a7)) (w : World) (hR : Rm w q r) : Calls Tryz.prog 84 #[.agg #[.pointer (some ⟨q, 0, none⟩)]] w (RP q (.agg #[.int .i64 a0, .int .i64 a1, .int .i64 a2, .int .i64 a3, .int .i64 a4, .int .i64 a5, .int .i64 a6, .int .i64 a7]) r8 w) := by
  have HX0 : Hid (Bx ((w.alloc (.cells #[.pointer (some ⟨q, 0, none⟩)] 133)).alloc (.cells #[.int .i64 0, .int .i64 0, .int .i64 0, .int .i64 0, .int .i64 0, .int .i64 0, .int .i64 0, .int .i64 0] 30)) w.heap.size #[.pointer (some ⟨q, 0, none⟩)] 133) := (Bx.new w _ _).keep (below_a _ _)
  have HY0 : Hid (Bx ((w.alloc (.cells #[.pointer (some ⟨q, 0, none⟩)] 133)).alloc (.cells #[.int .i64 0, .int .i64 0, .int .i64 0, .int .i64 0, .int .i64 0, .int .i64 0, .int .i64 0, .int .i64 0] 30)) (w.heap.size + 1) #[.int .i64 0, .int .i64 0, .int .i64 0, .int .i64 0, .int .i64 0, .int .i64 0, .int .i64 0, .int .i64 0] 30) := by have := Bx.new (w.alloc (.cells #[.pointer (some ⟨q, 0, none⟩)] 133)) #[.int .i64 0, .int .i64 0, .int .i64 0, .int .i64 0, .int .i64 0, .int .i64 0, .int .i64 0, .int .i64 0] 30; rwa [size_a] at this
  have HR0 : Hid (Rm ((w.alloc (.cells #[.pointer (some ⟨q, 0, none⟩)] 133)).alloc (.cells #[.int .i64 0, .int .i64 0, .int .i64 0, .int .i64 0, .int .i64 0, .int .i64 0, .int .i64 0, .int .i64 0] 30)) q r) := (hR.keep (below_a _ _)).keep (below_a _ _)
  have HB0 : Hid (Bt q w ((w.alloc (.cells #[.pointer (some ⟨q, 0, none⟩)] 133)).alloc (.cells #[.int .i64 0, .int .i64 0, .int .i64 0, .int .i64 0, .int .i64 0, .int .i64 0, .int .i64 0, .int .i64 0] 30))) := Bt.of_below (bt (below_a w _) (below_a _ _))
  have hdq : w.heap.size ≠ q := Nat.ne_of_gt hR.lt
  have hqs : q < w.heap.size := hR.lt
  clear hR
  go_enter Tryz.func84, Tryz.ntmps84
  go_upto_region 1 with fail
  generalize ((w.alloc (.cells #[.pointer (some ⟨q, 0, none⟩)] 133)).alloc (.cells #[.int .i64 0, .int .i64 0, .int .i64 0, .int .i64 0, .int .i64 0, .int .i64 0, .int .i64 0, .int .i64 0] 30)) = w1 at *
  go_wp2_with fail
  refine wp_region_held (S := fun W => Bx W w.heap.size #[.pointer (some ⟨q, 0, none⟩)] 133 ∧ Bt q w W) (by kernel_rfl) ?_
  change wpAnyH _ _ _ _ _ 26 #[false, false, false, false, false, false, false, false, false, false, false, false, false, false, false, false, false, false, false, false, false, false, false, false, false, false] _ w1.drew
  have hS0 : Bx w1.drew w.heap.size #[.pointer (some ⟨q, 0, none⟩)] 133 ∧ Bt q w w1.drew := ⟨HX0.out, HB0.out.drewN 1⟩
  have hR0 : Rm w1.drew q r := HR0.out.drewN 1
  have hY0 : Bx w1.drew (w.heap.size + 1) #[.int .i64 0, .int .i64 0, .int .i64 0, .int .i64 0, .int .i64 0, .int .i64 0, .int .i64 0, .int .i64 0] 30 := HY0.out
  clear HY0
  clear HX0 HB0 HR0
  obtain ⟨v0, hv0⟩ : ∃ v, v = w1.drew := ⟨_, rfl⟩
  rw [← hv0] at hS0 hR0 hY0 ⊢
  clear hv0
  refine takeR (fuel := 25) (i := 0) (v := .pointer (some ⟨w.heap.size, 0, none⟩)) rfl (by kernel_rfl) (by kernel_rfl) (by kernel_rfl) (fun _ _ _ h => h) (Or.inl ⟨rfl, fun W hW => by go_simp⟩) hS0 ?_
  simp only [Act.put, List.setIfInBounds_toArray, List.set_cons_zero, List.set_cons_succ]
  refine takeR (fuel := 24) (i := 1) (v := .pointer (some ⟨q, 0, none⟩)) rfl (by kernel_rfl) (by kernel_rfl) (by kernel_rfl) (fun _ _ _ h => h) (Or.inl ⟨rfl, fun W hW => by have cj := (hW.1.cell 0 : W.cell? ⟨w.heap.size, 0, none⟩ = some (.pointer (some ⟨q, 0, none⟩))); go_simp⟩) hS0 ?_
  simp only [Act.put, List.setIfInBounds_toArray, List.set_cons_zero, List.set_cons_succ]
  refine takeR (fuel := 23) (i := 3) (v := .pointer (some ⟨w.heap.size, 0, none⟩)) rfl (by kernel_rfl) (by kernel_rfl) (by kernel_rfl) (fun _ _ _ h => h) (Or.inl ⟨rfl, fun W hW => by go_simp⟩) hS0 ?_
  simp only [Act.put, List.setIfInBounds_toArray, List.set_cons_zero, List.set_cons_succ]
  refine takeR (fuel := 22) (i := 4) (v := .pointer (some ⟨q, 0, none⟩)) rfl (by kernel_rfl) (by kernel_rfl) (by kernel_rfl) (fun _ _ _ h => h) (Or.inl ⟨rfl, fun W hW => by have cj := (hW.1.cell 0 : W.cell? ⟨w.heap.size, 0, none⟩ = some (.pointer (some ⟨q, 0, none⟩))); go_simp⟩) hS0 ?_
  simp only [Act.put, List.setIfInBounds_toArray, List.set_cons_zero, List.set_cons_succ]
  refine takeR (fuel := 21) (i := 6) (v := .pointer (some ⟨w.heap.size, 0, none⟩)) rfl (by kernel_rfl) (by kernel_rfl) (by kernel_rfl) (fun _ _ _ h => h) (Or.inl ⟨rfl, fun W hW => by go_simp⟩) hS0 ?_
  simp only [Act.put, List.setIfInBounds_toArray, List.set_cons_zero, List.set_cons_succ]
  refine takeR (fuel := 20) (i := 7) (v := .pointer (some ⟨q, 0, none⟩)) rfl (by kernel_rfl) (by kernel_rfl) (by kernel_rfl) (fun _ _ _ h => h) (Or.inl ⟨rfl, fun W hW => by have cj := (hW.1.cell 0 : W.cell? ⟨w.heap.size, 0, none⟩ = some (.pointer (some ⟨q, 0, none⟩))); go_simp⟩) hS0 ?_
  simp only [Act.put, List.setIfInBounds_toArray, List.set_cons_zero, List.set_cons_succ]
  refine takeR (fuel := 19) (i := 9) (v := .pointer (some ⟨w.heap.size, 0, none⟩)) rfl (by kernel_rfl) (by kernel_rfl) (by kernel_rfl) (fun _ _ _ h => h) (Or.inl ⟨rfl, fun W hW => by go_simp⟩) hS0 ?_
  simp only [Act.put, List.setIfInBounds_toArray, List.set_cons_zero, List.set_cons_succ]
  refine takeR (fuel := 18) (i := 10) (v := .pointer (some ⟨q, 0, none⟩)) rfl (by kernel_rfl) (by kernel_rfl) (by kernel_rfl) (fun _ _ _ h => h) (Or.inl ⟨rfl, fun W hW => by have cj := (hW.1.cell 0 : W.cell? ⟨w.heap.size, 0, none⟩ = some (.pointer (some ⟨q, 0, none⟩))); go_simp⟩) hS0 ?_
  simp only [Act.put, List.setIfInBounds_toArray, List.set_cons_zero, List.set_cons_succ]
  refine takeR (fuel := 17) (i := 12) (v := .pointer (some ⟨w.heap.size, 0, none⟩)) rfl (by kernel_rfl) (by kernel_rfl) (by kernel_rfl) (fun _ _ _ h => h) (Or.inl ⟨rfl, fun W hW => by go_simp⟩) hS0 ?_
  simp only [Act.put, List.setIfInBounds_toArray, List.set_cons_zero, List.set_cons_succ]
  refine takeR (fuel := 16) (i := 13) (v := .pointer (some ⟨q, 0, none⟩)) rfl (by kernel_rfl) (by kernel_rfl) (by kernel_rfl) (fun _ _ _ h => h) (Or.inl ⟨rfl, fun W hW => by have cj := (hW.1.cell 0 : W.cell? ⟨w.heap.size, 0, none⟩ = some (.pointer (some ⟨q, 0, none⟩))); go_simp⟩) hS0 ?_
  simp only [Act.put, List.setIfInBounds_toArray, List.set_cons_zero, List.set_cons_succ]
  refine takeR (fuel := 15) (i := 15) (v := .pointer (some ⟨w.heap.size, 0, none⟩)) rfl (by kernel_rfl) (by kernel_rfl) (by kernel_rfl) (fun _ _ _ h => h) (Or.inl ⟨rfl, fun W hW => by go_simp⟩) hS0 ?_
  simp only [Act.put, List.setIfInBounds_toArray, List.set_cons_zero, List.set_cons_succ]
  refine takeR (fuel := 14) (i := 16) (v := .pointer (some ⟨q, 0, none⟩)) rfl (by kernel_rfl) (by kernel_rfl) (by kernel_rfl) (fun _ _ _ h => h) (Or.inl ⟨rfl, fun W hW => by have cj := (hW.1.cell 0 : W.cell? ⟨w.heap.size, 0, none⟩ = some (.pointer (some ⟨q, 0, none⟩))); go_simp⟩) hS0 ?_
  simp only [Act.put, List.setIfInBounds_toArray, List.set_cons_zero, List.set_cons_succ]
  refine takeR (fuel := 13) (i := 18) (v := .pointer (some ⟨w.heap.size, 0, none⟩)) rfl (by kernel_rfl) (by kernel_rfl) (by kernel_rfl) (fun _ _ _ h => h) (Or.inl ⟨rfl, fun W hW => by go_simp⟩) hS0 ?_
  simp only [Act.put, List.setIfInBounds_toArray, List.set_cons_zero, List.set_cons_succ]
  refine takeR (fuel := 12) (i := 19) (v := .pointer (some ⟨q, 0, none⟩)) rfl (by kernel_rfl) (by kernel_rfl) (by kernel_rfl) (fun _ _ _ h => h) (Or.inl ⟨rfl, fun W hW => by have cj := (hW.1.cell 0 : W.cell? ⟨w.heap.size, 0, none⟩ = some (.pointer (some ⟨q, 0, none⟩))); go_simp⟩) hS0 ?_
  simp only [Act.put, List.setIfInBounds_toArray, List.set_cons_zero, List.set_cons_succ]
  refine takeR (fuel := 11) (i := 21) (v := .pointer (some ⟨w.heap.size, 0, none⟩)) rfl (by kernel_rfl) (by kernel_rfl) (by kernel_rfl) (fun _ _ _ h => h) (Or.inl ⟨rfl, fun W hW => by go_simp⟩) hS0 ?_
  simp only [Act.put, List.setIfInBounds_toArray, List.set_cons_zero, List.set_cons_succ]
  refine takeR (fuel := 10) (i := 22) (v := .pointer (some ⟨q, 0, none⟩)) rfl (by kernel_rfl) (by kernel_rfl) (by kernel_rfl) (fun _ _ _ h => h) (Or.inl ⟨rfl, fun W hW => by have cj := (hW.1.cell 0 : W.cell? ⟨w.heap.size, 0, none⟩ = some (.pointer (some ⟨q, 0, none⟩))); go_simp⟩) hS0 ?_
  simp only [Act.put, List.setIfInBounds_toArray, List.set_cons_zero, List.set_cons_succ]
  refine consR (fuel := 9) (i := 2) rfl (by kernel_rfl) (fun K hK => ?_)
  rw [if_pos (by rfl)]
  go_simp
  refine (cInt h0 _ hR0).mono ?_
  rintro e u1 ⟨rfl, HR1, hC1⟩
  refine hK.out _ _ ⟨hS0.1.bt hC1.out hdq, hS0.2.trans hC1.out⟩ (fun hS1 => ?_)
  clear hK
  try simp only [Act.put, List.setIfInBounds_toArray, List.set_cons_zero, List.set_cons_succ]
  have hR1 := HR1.out
  have hY1 := hY0.bt hC1.out (by omega)
  clear hS0 hR0 HR1 hY0
  refine consR (fuel := 8) (i := 5) rfl (by kernel_rfl) (fun K hK => ?_)
  rw [if_pos (by rfl)]
  go_simp
  refine (cInt h1 _ hR1).mono ?_
  rintro e u2 ⟨rfl, HR2, hC2⟩
  refine hK.out _ _ ⟨hS1.1.bt hC2.out hdq, hS1.2.trans hC2.out⟩ (fun hS2 => ?_)
  clear hK
  try simp only [Act.put, List.setIfInBounds_toArray, List.set_cons_zero, List.set_cons_succ]
  have hR2 := HR2.out
  have hY2 := hY1.bt hC2.out (by omega)
  clear hS1 hR1 HR2 hY1
  refine consR (fuel := 7) (i := 8) rfl (by kernel_rfl) (fun K hK => ?_)
  rw [if_pos (by rfl)]
  go_simp
  refine (cInt h2 _ hR2).mono ?_
  rintro e u3 ⟨rfl, HR3, hC3⟩
  refine hK.out _ _ ⟨hS2.1.bt hC3.out hdq, hS2.2.trans hC3.out⟩ (fun hS3 => ?_)
  clear hK
  try simp only [Act.put, List.setIfInBounds_toArray, List.set_cons_zero, List.set_cons_succ]
  have hR3 := HR3.out
  have hY3 := hY2.bt hC3.out (by omega)
  clear hS2 hR2 HR3 hY2
  refine consR (fuel := 6) (i := 11) rfl (by kernel_rfl) (fun K hK => ?_)
  rw [if_pos (by rfl)]
  go_simp
  refine (cInt h3 _ hR3).mono ?_
  rintro e u4 ⟨rfl, HR4, hC4⟩
  refine hK.out _ _ ⟨hS3.1.bt hC4.out hdq, hS3.2.trans hC4.out⟩ (fun hS4 => ?_)
  clear hK
  try simp only [Act.put, List.setIfInBounds_toArray, List.set_cons_zero, List.set_cons_succ]
  have hR4 := HR4.out
  have hY4 := hY3.bt hC4.out (by omega)
  clear hS3 hR3 HR4 hY3
  refine consR (fuel := 5) (i := 14) rfl (by kernel_rfl) (fun K hK => ?_)
  rw [if_pos (by rfl)]
  go_simp
  refine (cInt h4 _ hR4).mono ?_
  rintro e u5 ⟨rfl, HR5, hC5⟩
  refine hK.out _ _ ⟨hS4.1.bt hC5.out hdq, hS4.2.trans hC5.out⟩ (fun hS5 => ?_)
  clear hK
  try simp only [Act.put, List.setIfInBounds_toArray, List.set_cons_zero, List.set_cons_succ]
  have hR5 := HR5.out
  have hY5 := hY4.bt hC5.out (by omega)
  clear hS4 hR4 HR5 hY4
  refine consR (fuel := 4) (i := 17) rfl (by kernel_rfl) (fun K hK => ?_)
  rw [if_pos (by rfl)]
  go_simp
  refine (cInt h5 _ hR5).mono ?_
  rintro e u6 ⟨rfl, HR6, hC6⟩
  refine hK.out _ _ ⟨hS5.1.bt hC6.out hdq, hS5.2.trans hC6.out⟩ (fun hS6 => ?_)
  clear hK
  try simp only [Act.put, List.setIfInBounds_toArray, List.set_cons_zero, List.set_cons_succ]
  have hR6 := HR6.out
  have hY6 := hY5.bt hC6.out (by omega)
  clear hS5 hR5 HR6 hY5
  refine consR (fuel := 3) (i := 20) rfl (by kernel_rfl) (fun K hK => ?_)
  rw [if_pos (by rfl)]
  go_simp
  refine (cInt h6 _ hR6).mono ?_
  rintro e u7 ⟨rfl, HR7, hC7⟩
  refine hK.out _ _ ⟨hS6.1.bt hC7.out hdq, hS6.2.trans hC7.out⟩ (fun hS7 => ?_)
  clear hK
  try simp only [Act.put, List.setIfInBounds_toArray, List.set_cons_zero, List.set_cons_succ]
  have hR7 := HR7.out
  have hY7 := hY6.bt hC7.out (by omega)
  clear hS6 hR6 HR7 hY6
  refine consR (fuel := 2) (i := 23) rfl (by kernel_rfl) (fun K hK => ?_)
  rw [if_pos (by rfl)]
  go_simp
  refine (cInt h7 _ hR7).mono ?_
  rintro e u8 ⟨rfl, HR8, hC8⟩
  refine hK.out _ _ ⟨hS7.1.bt hC8.out hdq, hS7.2.trans hC8.out⟩ (fun hS8 => ?_)
  clear hK
  try simp only [Act.put, List.setIfInBounds_toArray, List.set_cons_zero, List.set_cons_succ]
  have hR8 := HR8.out
  have hY8 := hY7.bt hC8.out (by omega)
  clear hS7 hR7 HR8 hY7
  refine takeR (fuel := 1) (i := 24) (v := .agg #[.int .i64 a0, .int .i64 a1, .int .i64 a2, .int .i64 a3, .int .i64 a4, .int .i64 a5, .int .i64 a6, .int .i64 a7]) rfl (by kernel_rfl) (by kernel_rfl) (by kernel_rfl) (fun _ _ _ h => h) (Or.inl ⟨rfl, fun W hW => by go_simp⟩) hS8 ?_
  simp only [Act.put, List.setIfInBounds_toArray, List.set_cons_zero, List.set_cons_succ]
  refine consR (fuel := 0) (i := 25) rfl (by kernel_rfl) (fun K hK => ?_)
  rw [if_pos (by rfl)]
  refine ow_store _ _ 30 _ _ rfl _ _ rfl rfl (storeT _ (w.heap.size + 1) _ #[.int .i64 a0, .int .i64 a1, .int .i64 a2, .int .i64 a3, .int .i64 a4, .int .i64 a5, .int .i64 a6, .int .i64 a7] info30 hY8 rfl rfl (by simp [Value.oneCell'])) ?_
  refine hK.out _ _ ⟨hS8.1.other (by omega), hS8.2.setRow (by omega)⟩ (fun hSz => ?_)
  clear hK
  try simp only [Act.put, List.setIfInBounds_toArray, List.set_cons_zero, List.set_cons_succ]
  have hld := loadR30 (u8.setRow (w.heap.size + 1) #[.int .i64 a0, .int .i64 a1, .int .i64 a2, .int .i64 a3, .int .i64 a4, .int .i64 a5, .int .i64 a6, .int .i64 a7]) (w.heap.size + 1) #[.int .i64 a0, .int .i64 a1, .int .i64 a2, .int .i64 a3, .int .i64 a4, .int .i64 a5, .int .i64 a6, .int .i64 a7] hY8.set rfl
  have HRz : Hid (Rm (u8.setRow (w.heap.size + 1) #[.int .i64 a0, .int .i64 a1, .int .i64 a2, .int .i64 a3, .int .i64 a4, .int .i64 a5, .int .i64 a6, .int .i64 a7]) q r8) := hR8.setRow (by omega)
  have HBz : Hid (Bt q w (u8.setRow (w.heap.size + 1) #[.int .i64 a0, .int .i64 a1, .int .i64 a2, .int .i64 a3, .int .i64 a4, .int .i64 a5, .int .i64 a6, .int .i64 a7])) := hSz.2
  refine wpAnyH_done (by kernel_rfl) ?_ _
  go_wp2_with fail
  refine bodyPost_ret (res_cell _ _ 2 30 _ _ _ rfl rfl hld) rfl ?_
  exact ⟨rfl, HRz, HBz⟩
end Go.Proofs.YtdmlgheajblcdaaGreat
