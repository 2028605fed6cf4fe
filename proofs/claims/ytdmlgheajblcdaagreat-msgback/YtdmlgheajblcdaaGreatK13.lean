/- Layer 10: Decode, over what is read of a message. -/
import Derived.Test.YtdmlgheajblcdaaGreatK10
import Derived.Test.YtdmlgheajblcdaaGreatK12
import Derived.WalkKit
import Derived.ProofKit
import Derived.Handy
import Derived.WalkLawsBesides
import Derived.WalkSpells
import Derived.BigQuiet
import Derived.BigCall
import Derived.Deep.QuietTactic
import Derived.Deep.Light
import Derived.Deep.OwnRows
import Derived.Laws.AppendOwnNone
import Derived.Laws.Strings3
import Derived.Laws.RangeAny
import Derived.Deep.RegionWith
import Derived.Lib.BitFns
import Derived.Lib.Walk
import Derived.Lib.Strings
import Derived.Lib.OthersKept
import Derived.Deep.CutBlock
import Derived.Deep.DeepCutAuto
import Derived.Deep.LoopGhost
import Derived.Deep.RegionHeld3
import Derived.Lib.SmallJoins
import Derived.Maps.AppendAt
import Derived.Laws.IdiomStrings
import Derived.Lib.AppendZeros
import Derived.Deep.WholeRow
import Derived.Laws.BitsAllLaws
import Derived.Lib.ConvBytes
import Derived.Deep.RegionLaw
namespace Go.Proofs.YtdmlgheajblcdaaGreat
open Go.RowKit
set_option linter.unusedVariables false
set_option linter.unusedSimpArgs false
set_option maxRecDepth 20000
theorem cell_bt {q p j : Nat} {w w' : World} {v : Value} (hb : Bt q w w') (hc : w.cell? ⟨p, j, none⟩ = some v) (hn : p ≠ q) : w'.cell? ⟨p, j, none⟩ = some v :=
  World.grownBy.cell hb hc (fun e => hn (Option.some.inj e))
def MsP (q : Nat) (r2 : Rd) (Q : World → Value → Prop) (w : World) (e : Ending) (w' : World) : Prop := ∃ v, e = .returned v ∧ Hid (Q w' v) ∧ Hid (Rm w' q r2) ∧ Hid (Bt q w w')
/-- what is said of a message in memory outlives a reader's calls -/
structure Stb (Q : Nat → World → Value → Prop) : Prop where
  bt : ∀ q w w' v, Q q w v → Bt q w w' → Q q w' v
  dr : ∀ q w n v, Q q w v → Q q (w.drewN n) v
def DcP (n g : Nat) (w : World) (e : Ending) (w' : World) : Prop := e = .returned (.tuple #[.nilIface, .int .i64 n, .int .i64 g]) ∧ Hid (Below w.heap.size w w')
def DcV (n : Nat) (Q : Nat → World → Value → Prop) (w : World) (e : Ending) (w' : World) : Prop := ∃ v q, e = .returned (.tuple #[v, .int .i64 n, .int .i64 0]) ∧ w.heap.size ≤ q ∧ Hid (Q q w' v) ∧ Hid (Below w.heap.size w w')
theorem errQ (q : Nat) (r : Rd) (w : World) (h : Rm w q r) : Calls Tryz.prog 58 #[.pointer (some ⟨q, 0, none⟩)] w fun e w' => e = .returned (.int .i64 r.e) ∧ w' = w := (xerr q r w h).mono fun _ _ ⟨he, hw⟩ => ⟨he, hw.symm⟩
theorem atQ (q : Nat) (r : Rd) (w : World) (h : Rm w q r) : Calls Tryz.prog 60 #[.pointer (some ⟨q, 0, none⟩)] w fun e w' => e = .returned (.int .i64 r.at_) ∧ w' = w := (xat q r w h).mono fun _ _ ⟨he, hw⟩ => ⟨he, hw.symm⟩
set_option maxHeartbeats 4000000 in
theorem decA (s : ByteArray) (hs : s.size ≤ 281474976710656) (w : World) (r1 r2 : Rd) (k : Int) (Q : Nat → World → Value → Prop) (hQ : Stb Q) (h1 : rInt ⟨s.data.toList, 0, 0⟩ = (r1, k)) (hm : ∀ q w', w.heap.size ≤ q → Rm w' q r1 → Below w.heap.size w w' → Calls Tryz.prog 56 #[.agg #[.pointer (some ⟨q, 0, none⟩)], .int .i64 k] w' (MsP q r2 (Q q) w')) (hn : ∀ q w v, Q q w v → v = .nilIface) (h0 : r2.e = 0) : Calls Tryz.prog 20 #[.string s] w (DcP 0 17 w) := by
  have HE0 : Hid (r2.e = 0) := h0
  clear h0
  have HS : Hid (∀ w, Calls Tryz.prog 55 #[.string s] w (NwP s.data.toList w)) := fun w => xnew s hs w
  have HI : Hid (∀ (q : Nat) (w : World), Rm w q ⟨s.data.toList, 0, 0⟩ → Calls Tryz.prog 57 #[.pointer (some ⟨q, 0, none⟩)] w (RP q (.int .i64 k) r1 w)) := fun q w h => by have := xint q _ w h; rw [h1] at this; exact this
  have HM : Hid (∀ q w', w.heap.size ≤ q → Rm w' q r1 → Below w.heap.size w w' → Calls Tryz.prog 56 #[.agg #[.pointer (some ⟨q, 0, none⟩)], .int .i64 k] w' (MsP q r2 (Q q) w')) := hm
  have HQ : Hid (Stb Q) := hQ
  have HN : Hid (∀ q w v, Q q w v → v = .nilIface) := hn
  clear h1 hm hQ hn
  go_enter Tryz.func20, Tryz.ntmps20
  go_wp2_with fail
  refine (HS.out _).mono ?_
  rintro e w2 ⟨q, rfl, hq, HR2, HB2⟩
  clear HS
  go_wp2_with fail
  have HX : Hid (Bx (w2.alloc (.cells #[.pointer (some ⟨q, 0, none⟩)] 133)) w2.heap.size #[.pointer (some ⟨q, 0, none⟩)] 133) := Bx.new _ _ _
  have HR3 : Hid (Rm (w2.alloc (.cells #[.pointer (some ⟨q, 0, none⟩)] 133)) q ⟨s.data.toList, 0, 0⟩) := HR2.out.keep (below_a w2 _)
  have HB3 : Hid (Below w.heap.size w (w2.alloc (.cells #[.pointer (some ⟨q, 0, none⟩)] 133))) := HB2.out.alloc HB2.out.size _
  have hdq : w2.heap.size ≠ q := Nat.ne_of_gt HR2.out.lt
  have hwd : w.heap.size ≤ w2.heap.size := HB2.out.size
  clear HR2 HB2
  generalize w2.alloc (.cells #[.pointer (some ⟨q, 0, none⟩)] 133) = w3 at *
  generalize w2.heap.size = d at *
  have c0 : w3.cell? ⟨d, 0, none⟩ = some (.pointer (some ⟨q, 0, none⟩)) := HX.out.cell 0
  have HKP : Hid (∀ (n : Nat) (w5 : World), Bt q (w3.drewN n) w5 → w5.cell? ⟨d, 0, none⟩ = some (.pointer (some ⟨q, 0, none⟩))) := fun n w5 hb => cell_bt hb c0 hdq
  have HKB : Hid (∀ (n : Nat) (w5 : World), Bt q (w3.drewN n) w5 → Below w.heap.size w w5) := fun n w5 hb => (bdrw HB3.out n).trans (hb.below hq HB3.out.size)
  have HK2 : Hid (∀ (n : Nat) (w5 w6 : World), Bt q (w3.drewN n) w5 → Bt q w5 w6 → w6.cell? ⟨d, 0, none⟩ = some (.pointer (some ⟨q, 0, none⟩))) := fun n w5 w6 hb hb2 => cell_bt (hb.trans hb2) c0 hdq
  have HKB2 : Hid (∀ (n : Nat) (w5 w6 : World), Bt q (w3.drewN n) w5 → Bt q w5 w6 → Below w.heap.size w w6) := fun n w5 w6 hb hb2 => (bdrw HB3.out n).trans ((hb.trans hb2).below hq HB3.out.size)
  clear HX
  go_region_held3 (fun w' => w'.cell? ⟨d, 0, none⟩ = some (.pointer (some ⟨q, 0, none⟩))) (first | go_keep | exact HK2.out _ _ _ HB5.out HB6.out | exact HKP.out _ _ HB5.out) (first | (go_at_call 57; go_must (refine (HI.out q _ (HR3.out.drewN _)).mono ?_; rintro e w5 ⟨rfl, HR5, HB5⟩)) | (go_at_call 56; go_must (refine (HM.out q _ hq HR5.out (HKB.out _ _ HB5.out)).mono ?_; rintro e w6 ⟨v, rfl, HV6, HR6, HB6⟩)))
  have c6 : w6.cell? ⟨d, 0, none⟩ = some (.pointer (some ⟨q, 0, none⟩)) := HK2.out _ _ _ HB5.out HB6.out
  have HB7 : Hid (Below w.heap.size w w6) := HKB2.out _ _ _ HB5.out HB6.out
  rename_i hHeld
  clear hHeld HKP HKB HK2 HKB2 HB5 HR5 HI HM HR3 HB3 HB6 c0
  obtain rfl := HN.out _ _ _ HV6.out
  go_wp2_with fail
  refine (xerr q r2 _ HR6.out).mono ?_
  rintro e w7 ⟨rfl, rfl⟩
  rw [HE0.out]
  go_wp2_with fail
  go_ret3
  exact ⟨rfl, HB7⟩
set_option maxHeartbeats 4000000 in
theorem decB1 (s : ByteArray) (hs : s.size ≤ 281474976710656) (w : World) (r1 r2 : Rd) (k : Int) (Q : Nat → World → Value → Prop) (hQ : Stb Q) (h1 : rInt ⟨s.data.toList, 0, 0⟩ = (r1, k)) (hm : ∀ q w', w.heap.size ≤ q → Rm w' q r1 → Below w.heap.size w w' → Calls Tryz.prog 56 #[.agg #[.pointer (some ⟨q, 0, none⟩)], .int .i64 k] w' (MsP q r2 (Q q) w')) (hn : ∀ q w v, Q q w v → v = .nilIface) (h0 : r2.e ≠ 0) (he : (rEnd r2).2 = false) : Calls Tryz.prog 20 #[.string s] w (DcP (rEnd r2).1.at_ (rEnd r2).1.e w) := by
  have HE0 : Hid (((r2.e : Int) == 0) = false) := by unfold Hid; rw [beq_eq_false_iff_ne]; omega
  clear h0
  have HS : Hid (∀ w, Calls Tryz.prog 55 #[.string s] w (NwP s.data.toList w)) := fun w => xnew s hs w
  have HI : Hid (∀ (q : Nat) (w : World), Rm w q ⟨s.data.toList, 0, 0⟩ → Calls Tryz.prog 57 #[.pointer (some ⟨q, 0, none⟩)] w (RP q (.int .i64 k) r1 w)) := fun q w h => by have := xint q _ w h; rw [h1] at this; exact this
  have HM : Hid (∀ q w', w.heap.size ≤ q → Rm w' q r1 → Below w.heap.size w w' → Calls Tryz.prog 56 #[.agg #[.pointer (some ⟨q, 0, none⟩)], .int .i64 k] w' (MsP q r2 (Q q) w')) := hm
  have HQ : Hid (Stb Q) := hQ
  have HN : Hid (∀ q w v, Q q w v → v = .nilIface) := hn
  clear h1 hm hQ hn
  go_enter Tryz.func20, Tryz.ntmps20
  go_wp2_with fail
  refine (HS.out _).mono ?_
  rintro e w2 ⟨q, rfl, hq, HR2, HB2⟩
  clear HS
  go_wp2_with fail
  have HX : Hid (Bx (w2.alloc (.cells #[.pointer (some ⟨q, 0, none⟩)] 133)) w2.heap.size #[.pointer (some ⟨q, 0, none⟩)] 133) := Bx.new _ _ _
  have HR3 : Hid (Rm (w2.alloc (.cells #[.pointer (some ⟨q, 0, none⟩)] 133)) q ⟨s.data.toList, 0, 0⟩) := HR2.out.keep (below_a w2 _)
  have HB3 : Hid (Below w.heap.size w (w2.alloc (.cells #[.pointer (some ⟨q, 0, none⟩)] 133))) := HB2.out.alloc HB2.out.size _
  have hdq : w2.heap.size ≠ q := Nat.ne_of_gt HR2.out.lt
  have hwd : w.heap.size ≤ w2.heap.size := HB2.out.size
  clear HR2 HB2
  generalize w2.alloc (.cells #[.pointer (some ⟨q, 0, none⟩)] 133) = w3 at *
  generalize w2.heap.size = d at *
  have c0 : w3.cell? ⟨d, 0, none⟩ = some (.pointer (some ⟨q, 0, none⟩)) := HX.out.cell 0
  have HKP : Hid (∀ (n : Nat) (w5 : World), Bt q (w3.drewN n) w5 → w5.cell? ⟨d, 0, none⟩ = some (.pointer (some ⟨q, 0, none⟩))) := fun n w5 hb => cell_bt hb c0 hdq
  have HKB : Hid (∀ (n : Nat) (w5 : World), Bt q (w3.drewN n) w5 → Below w.heap.size w w5) := fun n w5 hb => (bdrw HB3.out n).trans (hb.below hq HB3.out.size)
  have HK2 : Hid (∀ (n : Nat) (w5 w6 : World), Bt q (w3.drewN n) w5 → Bt q w5 w6 → w6.cell? ⟨d, 0, none⟩ = some (.pointer (some ⟨q, 0, none⟩))) := fun n w5 w6 hb hb2 => cell_bt (hb.trans hb2) c0 hdq
  have HKB2 : Hid (∀ (n : Nat) (w5 w6 : World), Bt q (w3.drewN n) w5 → Bt q w5 w6 → Below w.heap.size w w6) := fun n w5 w6 hb hb2 => (bdrw HB3.out n).trans ((hb.trans hb2).below hq HB3.out.size)
  clear HX
  go_region_held3 (fun w' => w'.cell? ⟨d, 0, none⟩ = some (.pointer (some ⟨q, 0, none⟩))) (first | go_keep | exact HK2.out _ _ _ HB5.out HB6.out | exact HKP.out _ _ HB5.out) (first | (go_at_call 57; go_must (refine (HI.out q _ (HR3.out.drewN _)).mono ?_; rintro e w5 ⟨rfl, HR5, HB5⟩)) | (go_at_call 56; go_must (refine (HM.out q _ hq HR5.out (HKB.out _ _ HB5.out)).mono ?_; rintro e w6 ⟨v, rfl, HV6, HR6, HB6⟩)))
  have c6 : w6.cell? ⟨d, 0, none⟩ = some (.pointer (some ⟨q, 0, none⟩)) := HK2.out _ _ _ HB5.out HB6.out
  have HB7 : Hid (Below w.heap.size w w6) := HKB2.out _ _ _ HB5.out HB6.out
  rename_i hHeld
  clear hHeld HKP HKB HK2 HKB2 HB5 HR5 HI HM HR3 HB3 HB6 c0
  obtain rfl := HN.out _ _ _ HV6.out
  go_wp2_with fail
  refine (xerr q r2 _ HR6.out).mono ?_
  rintro e w7 ⟨rfl, rfl⟩
  have hz := HE0.out
  go_wp2_with fail
  refine (xend q r2 _ HR6.out).mono ?_
  rintro e w8 ⟨rfl, HR8, HB8⟩
  have c8 : w8.cell? ⟨d, 0, none⟩ = some (.pointer (some ⟨q, 0, none⟩)) := cell_bt HB8.out c6 hdq
  have HB9 : Hid (Below w.heap.size w w8) := HB7.out.trans (HB8.out.below hq HB7.out.size)
  have HV8 : Hid (Q q w8 .nilIface) := HQ.out.bt _ _ _ _ HV6.out HB8.out
  clear HR6 HB7 c6 HV6 HB8
  rw [he]
  go_wp2_with fail
  have HE9 : Hid (∀ n, Calls Tryz.prog 58 #[.pointer (some ⟨q, 0, none⟩)] (w8.drewN n) fun e w' => e = .returned (.int .i64 (rEnd r2).1.e) ∧ w' = w8.drewN n) := fun n => errQ q _ _ (HR8.out.drewN n)
  have HA9 : Hid (∀ n, Calls Tryz.prog 60 #[.pointer (some ⟨q, 0, none⟩)] (w8.drewN n) fun e w' => e = .returned (.int .i64 (rEnd r2).1.at_) ∧ w' = w8.drewN n) := fun n => atQ q _ _ (HR8.out.drewN n)
  have HBX : Hid (∀ n, Below w.heap.size w (w8.drewN n)) := fun n => bdrw HB9.out n
  generalize (rEnd r2).1.e = e9 at *
  generalize (rEnd r2).1.at_ = a9 at *
  go_quiet ((first | (go_at_call 58; refine Calls.quiet_of_same (HE9.out _)) | (go_at_call 60; refine Calls.quiet_of_same (HA9.out _))))
  go_wp2_with fail
  go_ret3
  exact ⟨rfl, HBX.out _⟩
set_option maxHeartbeats 4000000 in
theorem decB2 (s : ByteArray) (hs : s.size ≤ 281474976710656) (w : World) (r1 r2 : Rd) (k : Int) (Q : Nat → World → Value → Prop) (hQ : Stb Q) (h1 : rInt ⟨s.data.toList, 0, 0⟩ = (r1, k)) (hm : ∀ q w', w.heap.size ≤ q → Rm w' q r1 → Below w.heap.size w w' → Calls Tryz.prog 56 #[.agg #[.pointer (some ⟨q, 0, none⟩)], .int .i64 k] w' (MsP q r2 (Q q) w')) (hn : ∀ q w v, Q q w v → ∃ T u, v = .iface T u) (he : (rEnd r2).2 = false) : Calls Tryz.prog 20 #[.string s] w (DcP (rEnd r2).1.at_ (rEnd r2).1.e w) := by
  have HS : Hid (∀ w, Calls Tryz.prog 55 #[.string s] w (NwP s.data.toList w)) := fun w => xnew s hs w
  have HI : Hid (∀ (q : Nat) (w : World), Rm w q ⟨s.data.toList, 0, 0⟩ → Calls Tryz.prog 57 #[.pointer (some ⟨q, 0, none⟩)] w (RP q (.int .i64 k) r1 w)) := fun q w h => by have := xint q _ w h; rw [h1] at this; exact this
  have HM : Hid (∀ q w', w.heap.size ≤ q → Rm w' q r1 → Below w.heap.size w w' → Calls Tryz.prog 56 #[.agg #[.pointer (some ⟨q, 0, none⟩)], .int .i64 k] w' (MsP q r2 (Q q) w')) := hm
  have HQ : Hid (Stb Q) := hQ
  have HN : Hid (∀ q w v, Q q w v → ∃ T u, v = .iface T u) := hn
  clear h1 hm hQ hn
  go_enter Tryz.func20, Tryz.ntmps20
  go_wp2_with fail
  refine (HS.out _).mono ?_
  rintro e w2 ⟨q, rfl, hq, HR2, HB2⟩
  clear HS
  go_wp2_with fail
  have HX : Hid (Bx (w2.alloc (.cells #[.pointer (some ⟨q, 0, none⟩)] 133)) w2.heap.size #[.pointer (some ⟨q, 0, none⟩)] 133) := Bx.new _ _ _
  have HR3 : Hid (Rm (w2.alloc (.cells #[.pointer (some ⟨q, 0, none⟩)] 133)) q ⟨s.data.toList, 0, 0⟩) := HR2.out.keep (below_a w2 _)
  have HB3 : Hid (Below w.heap.size w (w2.alloc (.cells #[.pointer (some ⟨q, 0, none⟩)] 133))) := HB2.out.alloc HB2.out.size _
  have hdq : w2.heap.size ≠ q := Nat.ne_of_gt HR2.out.lt
  have hwd : w.heap.size ≤ w2.heap.size := HB2.out.size
  clear HR2 HB2
  generalize w2.alloc (.cells #[.pointer (some ⟨q, 0, none⟩)] 133) = w3 at *
  generalize w2.heap.size = d at *
  have c0 : w3.cell? ⟨d, 0, none⟩ = some (.pointer (some ⟨q, 0, none⟩)) := HX.out.cell 0
  have HKP : Hid (∀ (n : Nat) (w5 : World), Bt q (w3.drewN n) w5 → w5.cell? ⟨d, 0, none⟩ = some (.pointer (some ⟨q, 0, none⟩))) := fun n w5 hb => cell_bt hb c0 hdq
  have HKB : Hid (∀ (n : Nat) (w5 : World), Bt q (w3.drewN n) w5 → Below w.heap.size w w5) := fun n w5 hb => (bdrw HB3.out n).trans (hb.below hq HB3.out.size)
  have HK2 : Hid (∀ (n : Nat) (w5 w6 : World), Bt q (w3.drewN n) w5 → Bt q w5 w6 → w6.cell? ⟨d, 0, none⟩ = some (.pointer (some ⟨q, 0, none⟩))) := fun n w5 w6 hb hb2 => cell_bt (hb.trans hb2) c0 hdq
  have HKB2 : Hid (∀ (n : Nat) (w5 w6 : World), Bt q (w3.drewN n) w5 → Bt q w5 w6 → Below w.heap.size w w6) := fun n w5 w6 hb hb2 => (bdrw HB3.out n).trans ((hb.trans hb2).below hq HB3.out.size)
  clear HX
  go_region_held3 (fun w' => w'.cell? ⟨d, 0, none⟩ = some (.pointer (some ⟨q, 0, none⟩))) (first | go_keep | exact HK2.out _ _ _ HB5.out HB6.out | exact HKP.out _ _ HB5.out) (first | (go_at_call 57; go_must (refine (HI.out q _ (HR3.out.drewN _)).mono ?_; rintro e w5 ⟨rfl, HR5, HB5⟩)) | (go_at_call 56; go_must (refine (HM.out q _ hq HR5.out (HKB.out _ _ HB5.out)).mono ?_; rintro e w6 ⟨v, rfl, HV6, HR6, HB6⟩)))
  have c6 : w6.cell? ⟨d, 0, none⟩ = some (.pointer (some ⟨q, 0, none⟩)) := HK2.out _ _ _ HB5.out HB6.out
  have HB7 : Hid (Below w.heap.size w w6) := HKB2.out _ _ _ HB5.out HB6.out
  rename_i hHeld
  clear hHeld HKP HKB HK2 HKB2 HB5 HR5 HI HM HR3 HB3 HB6 c0
  obtain ⟨T, u, rfl⟩ := HN.out _ _ _ HV6.out
  go_wp2_with fail
  refine (xend q r2 _ HR6.out).mono ?_
  rintro e w8 ⟨rfl, HR8, HB8⟩
  have c8 : w8.cell? ⟨d, 0, none⟩ = some (.pointer (some ⟨q, 0, none⟩)) := cell_bt HB8.out c6 hdq
  have HB9 : Hid (Below w.heap.size w w8) := HB7.out.trans (HB8.out.below hq HB7.out.size)
  have HV8 : Hid (Q q w8 (.iface T u)) := HQ.out.bt _ _ _ _ HV6.out HB8.out
  clear HR6 HB7 c6 HV6 HB8
  rw [he]
  go_wp2_with fail
  have HE9 : Hid (∀ n, Calls Tryz.prog 58 #[.pointer (some ⟨q, 0, none⟩)] (w8.drewN n) fun e w' => e = .returned (.int .i64 (rEnd r2).1.e) ∧ w' = w8.drewN n) := fun n => errQ q _ _ (HR8.out.drewN n)
  have HA9 : Hid (∀ n, Calls Tryz.prog 60 #[.pointer (some ⟨q, 0, none⟩)] (w8.drewN n) fun e w' => e = .returned (.int .i64 (rEnd r2).1.at_) ∧ w' = w8.drewN n) := fun n => atQ q _ _ (HR8.out.drewN n)
  have HBX : Hid (∀ n, Below w.heap.size w (w8.drewN n)) := fun n => bdrw HB9.out n
  generalize (rEnd r2).1.e = e9 at *
  generalize (rEnd r2).1.at_ = a9 at *
  go_quiet ((first | (go_at_call 58; refine Calls.quiet_of_same (HE9.out _)) | (go_at_call 60; refine Calls.quiet_of_same (HA9.out _))))
  go_wp2_with fail
  go_ret3
  exact ⟨rfl, HBX.out _⟩
set_option maxHeartbeats 4000000 in
theorem decC (s : ByteArray) (hs : s.size ≤ 281474976710656) (w : World) (r1 r2 : Rd) (k : Int) (Q : Nat → World → Value → Prop) (hQ : Stb Q) (h1 : rInt ⟨s.data.toList, 0, 0⟩ = (r1, k)) (hm : ∀ q w', w.heap.size ≤ q → Rm w' q r1 → Below w.heap.size w w' → Calls Tryz.prog 56 #[.agg #[.pointer (some ⟨q, 0, none⟩)], .int .i64 k] w' (MsP q r2 (Q q) w')) (hn : ∀ q w v, Q q w v → ∃ T u, v = .iface T u) (he : (rEnd r2).2 = true) (g : Nat) (hg : g ≠ 0) (hc : ∀ q w v, Q q w v → Calls Tryz.prog 12 #[v] w (KP (.int .i64 g) w)) : Calls Tryz.prog 20 #[.string s] w (DcP s.size g w) := by
  have hz : ((g : Int) != 0) = true := by rw [bne_iff_ne]; omega
  have HC : Hid (∀ q w v, Q q w v → Calls Tryz.prog 12 #[v] w (KP (.int .i64 g) w)) := hc
  have hsz : (s.size : Int) ≤ 281474976710656 := by omega
  clear hc hg
  have HS : Hid (∀ w, Calls Tryz.prog 55 #[.string s] w (NwP s.data.toList w)) := fun w => xnew s hs w
  have HI : Hid (∀ (q : Nat) (w : World), Rm w q ⟨s.data.toList, 0, 0⟩ → Calls Tryz.prog 57 #[.pointer (some ⟨q, 0, none⟩)] w (RP q (.int .i64 k) r1 w)) := fun q w h => by have := xint q _ w h; rw [h1] at this; exact this
  have HM : Hid (∀ q w', w.heap.size ≤ q → Rm w' q r1 → Below w.heap.size w w' → Calls Tryz.prog 56 #[.agg #[.pointer (some ⟨q, 0, none⟩)], .int .i64 k] w' (MsP q r2 (Q q) w')) := hm
  have HQ : Hid (Stb Q) := hQ
  have HN : Hid (∀ q w v, Q q w v → ∃ T u, v = .iface T u) := hn
  clear h1 hm hQ hn
  go_enter Tryz.func20, Tryz.ntmps20
  go_wp2_with fail
  refine (HS.out _).mono ?_
  rintro e w2 ⟨q, rfl, hq, HR2, HB2⟩
  clear HS
  go_wp2_with fail
  have HX : Hid (Bx (w2.alloc (.cells #[.pointer (some ⟨q, 0, none⟩)] 133)) w2.heap.size #[.pointer (some ⟨q, 0, none⟩)] 133) := Bx.new _ _ _
  have HR3 : Hid (Rm (w2.alloc (.cells #[.pointer (some ⟨q, 0, none⟩)] 133)) q ⟨s.data.toList, 0, 0⟩) := HR2.out.keep (below_a w2 _)
  have HB3 : Hid (Below w.heap.size w (w2.alloc (.cells #[.pointer (some ⟨q, 0, none⟩)] 133))) := HB2.out.alloc HB2.out.size _
  have hdq : w2.heap.size ≠ q := Nat.ne_of_gt HR2.out.lt
  have hwd : w.heap.size ≤ w2.heap.size := HB2.out.size
  clear HR2 HB2
  generalize w2.alloc (.cells #[.pointer (some ⟨q, 0, none⟩)] 133) = w3 at *
  generalize w2.heap.size = d at *
  have c0 : w3.cell? ⟨d, 0, none⟩ = some (.pointer (some ⟨q, 0, none⟩)) := HX.out.cell 0
  have HKP : Hid (∀ (n : Nat) (w5 : World), Bt q (w3.drewN n) w5 → w5.cell? ⟨d, 0, none⟩ = some (.pointer (some ⟨q, 0, none⟩))) := fun n w5 hb => cell_bt hb c0 hdq
  have HKB : Hid (∀ (n : Nat) (w5 : World), Bt q (w3.drewN n) w5 → Below w.heap.size w w5) := fun n w5 hb => (bdrw HB3.out n).trans (hb.below hq HB3.out.size)
  have HK2 : Hid (∀ (n : Nat) (w5 w6 : World), Bt q (w3.drewN n) w5 → Bt q w5 w6 → w6.cell? ⟨d, 0, none⟩ = some (.pointer (some ⟨q, 0, none⟩))) := fun n w5 w6 hb hb2 => cell_bt (hb.trans hb2) c0 hdq
  have HKB2 : Hid (∀ (n : Nat) (w5 w6 : World), Bt q (w3.drewN n) w5 → Bt q w5 w6 → Below w.heap.size w w6) := fun n w5 w6 hb hb2 => (bdrw HB3.out n).trans ((hb.trans hb2).below hq HB3.out.size)
  clear HX
  go_region_held3 (fun w' => w'.cell? ⟨d, 0, none⟩ = some (.pointer (some ⟨q, 0, none⟩))) (first | go_keep | exact HK2.out _ _ _ HB5.out HB6.out | exact HKP.out _ _ HB5.out) (first | (go_at_call 57; go_must (refine (HI.out q _ (HR3.out.drewN _)).mono ?_; rintro e w5 ⟨rfl, HR5, HB5⟩)) | (go_at_call 56; go_must (refine (HM.out q _ hq HR5.out (HKB.out _ _ HB5.out)).mono ?_; rintro e w6 ⟨v, rfl, HV6, HR6, HB6⟩)))
  have c6 : w6.cell? ⟨d, 0, none⟩ = some (.pointer (some ⟨q, 0, none⟩)) := HK2.out _ _ _ HB5.out HB6.out
  have HB7 : Hid (Below w.heap.size w w6) := HKB2.out _ _ _ HB5.out HB6.out
  rename_i hHeld
  clear hHeld HKP HKB HK2 HKB2 HB5 HR5 HI HM HR3 HB3 HB6 c0
  obtain ⟨T, u, rfl⟩ := HN.out _ _ _ HV6.out
  go_wp2_with fail
  refine (xend q r2 _ HR6.out).mono ?_
  rintro e w8 ⟨rfl, HR8, HB8⟩
  have c8 : w8.cell? ⟨d, 0, none⟩ = some (.pointer (some ⟨q, 0, none⟩)) := cell_bt HB8.out c6 hdq
  have HB9 : Hid (Below w.heap.size w w8) := HB7.out.trans (HB8.out.below hq HB7.out.size)
  have HV8 : Hid (Q q w8 (.iface T u)) := HQ.out.bt _ _ _ _ HV6.out HB8.out
  clear HR6 HB7 c6 HV6 HB8
  rw [he]
  go_wp2_with fail
  refine (HC.out _ _ _ HV8.out).mono ?_
  rintro e w9 ⟨rfl, hb9⟩
  have HBX : Hid (Below w.heap.size w w9) := bt HB9.out hb9.out
  clear hb9 HB9 HV8 HR8
  go_wp2_with fail
  go_ret3
  exact ⟨rfl, HBX⟩
set_option maxHeartbeats 4000000 in
theorem decD (s : ByteArray) (hs : s.size ≤ 281474976710656) (w : World) (r1 r2 : Rd) (k : Int) (Q : Nat → World → Value → Prop) (hQ : Stb Q) (h1 : rInt ⟨s.data.toList, 0, 0⟩ = (r1, k)) (hm : ∀ q w', w.heap.size ≤ q → Rm w' q r1 → Below w.heap.size w w' → Calls Tryz.prog 56 #[.agg #[.pointer (some ⟨q, 0, none⟩)], .int .i64 k] w' (MsP q r2 (Q q) w')) (hn : ∀ q w v, Q q w v → ∃ T u, v = .iface T u) (he : (rEnd r2).2 = true) (hc : ∀ q w v, Q q w v → Calls Tryz.prog 12 #[v] w (KP (.int .i64 0) w)) : Calls Tryz.prog 20 #[.string s] w (DcV s.size Q w) := by
  have HC : Hid (∀ q w v, Q q w v → Calls Tryz.prog 12 #[v] w (KP (.int .i64 0) w)) := hc
  have hsz : (s.size : Int) ≤ 281474976710656 := by omega
  clear hc
  have HS : Hid (∀ w, Calls Tryz.prog 55 #[.string s] w (NwP s.data.toList w)) := fun w => xnew s hs w
  have HI : Hid (∀ (q : Nat) (w : World), Rm w q ⟨s.data.toList, 0, 0⟩ → Calls Tryz.prog 57 #[.pointer (some ⟨q, 0, none⟩)] w (RP q (.int .i64 k) r1 w)) := fun q w h => by have := xint q _ w h; rw [h1] at this; exact this
  have HM : Hid (∀ q w', w.heap.size ≤ q → Rm w' q r1 → Below w.heap.size w w' → Calls Tryz.prog 56 #[.agg #[.pointer (some ⟨q, 0, none⟩)], .int .i64 k] w' (MsP q r2 (Q q) w')) := hm
  have HQ : Hid (Stb Q) := hQ
  have HN : Hid (∀ q w v, Q q w v → ∃ T u, v = .iface T u) := hn
  clear h1 hm hQ hn
  go_enter Tryz.func20, Tryz.ntmps20
  go_wp2_with fail
  refine (HS.out _).mono ?_
  rintro e w2 ⟨q, rfl, hq, HR2, HB2⟩
  clear HS
  go_wp2_with fail
  have HX : Hid (Bx (w2.alloc (.cells #[.pointer (some ⟨q, 0, none⟩)] 133)) w2.heap.size #[.pointer (some ⟨q, 0, none⟩)] 133) := Bx.new _ _ _
  have HR3 : Hid (Rm (w2.alloc (.cells #[.pointer (some ⟨q, 0, none⟩)] 133)) q ⟨s.data.toList, 0, 0⟩) := HR2.out.keep (below_a w2 _)
  have HB3 : Hid (Below w.heap.size w (w2.alloc (.cells #[.pointer (some ⟨q, 0, none⟩)] 133))) := HB2.out.alloc HB2.out.size _
  have hdq : w2.heap.size ≠ q := Nat.ne_of_gt HR2.out.lt
  have hwd : w.heap.size ≤ w2.heap.size := HB2.out.size
  clear HR2 HB2
  generalize w2.alloc (.cells #[.pointer (some ⟨q, 0, none⟩)] 133) = w3 at *
  generalize w2.heap.size = d at *
  have c0 : w3.cell? ⟨d, 0, none⟩ = some (.pointer (some ⟨q, 0, none⟩)) := HX.out.cell 0
  have HKP : Hid (∀ (n : Nat) (w5 : World), Bt q (w3.drewN n) w5 → w5.cell? ⟨d, 0, none⟩ = some (.pointer (some ⟨q, 0, none⟩))) := fun n w5 hb => cell_bt hb c0 hdq
  have HKB : Hid (∀ (n : Nat) (w5 : World), Bt q (w3.drewN n) w5 → Below w.heap.size w w5) := fun n w5 hb => (bdrw HB3.out n).trans (hb.below hq HB3.out.size)
  have HK2 : Hid (∀ (n : Nat) (w5 w6 : World), Bt q (w3.drewN n) w5 → Bt q w5 w6 → w6.cell? ⟨d, 0, none⟩ = some (.pointer (some ⟨q, 0, none⟩))) := fun n w5 w6 hb hb2 => cell_bt (hb.trans hb2) c0 hdq
  have HKB2 : Hid (∀ (n : Nat) (w5 w6 : World), Bt q (w3.drewN n) w5 → Bt q w5 w6 → Below w.heap.size w w6) := fun n w5 w6 hb hb2 => (bdrw HB3.out n).trans ((hb.trans hb2).below hq HB3.out.size)
  clear HX
  go_region_held3 (fun w' => w'.cell? ⟨d, 0, none⟩ = some (.pointer (some ⟨q, 0, none⟩))) (first | go_keep | exact HK2.out _ _ _ HB5.out HB6.out | exact HKP.out _ _ HB5.out) (first | (go_at_call 57; go_must (refine (HI.out q _ (HR3.out.drewN _)).mono ?_; rintro e w5 ⟨rfl, HR5, HB5⟩)) | (go_at_call 56; go_must (refine (HM.out q _ hq HR5.out (HKB.out _ _ HB5.out)).mono ?_; rintro e w6 ⟨v, rfl, HV6, HR6, HB6⟩)))
  have c6 : w6.cell? ⟨d, 0, none⟩ = some (.pointer (some ⟨q, 0, none⟩)) := HK2.out _ _ _ HB5.out HB6.out
  have HB7 : Hid (Below w.heap.size w w6) := HKB2.out _ _ _ HB5.out HB6.out
  rename_i hHeld
  clear hHeld HKP HKB HK2 HKB2 HB5 HR5 HI HM HR3 HB3 HB6 c0
  obtain ⟨T, u, rfl⟩ := HN.out _ _ _ HV6.out
  go_wp2_with fail
  refine (xend q r2 _ HR6.out).mono ?_
  rintro e w8 ⟨rfl, HR8, HB8⟩
  have c8 : w8.cell? ⟨d, 0, none⟩ = some (.pointer (some ⟨q, 0, none⟩)) := cell_bt HB8.out c6 hdq
  have HB9 : Hid (Below w.heap.size w w8) := HB7.out.trans (HB8.out.below hq HB7.out.size)
  have HV8 : Hid (Q q w8 (.iface T u)) := HQ.out.bt _ _ _ _ HV6.out HB8.out
  clear HR6 HB7 c6 HV6 HB8
  rw [he]
  go_wp2_with fail
  refine (HC.out _ _ _ HV8.out).mono ?_
  rintro e w9 ⟨rfl, hb9⟩
  have HBX : Hid (Below w.heap.size w w9) := bt HB9.out hb9.out
  have HV9 : Hid (Q q w9 (.iface T u)) := HQ.out.bt _ _ _ _ HV8.out (Bt.of_below hb9.out)
  clear hb9 HB9 HV8 HR8
  go_wp2_with fail
  go_ret3
  exact ⟨_, q, rfl, hq, HV9, HBX⟩
end Go.Proofs.YtdmlgheajblcdaaGreat
