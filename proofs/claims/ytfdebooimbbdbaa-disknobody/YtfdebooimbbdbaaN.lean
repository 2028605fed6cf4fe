/- A call of both, kind by kind. -/
import Derived.Test.YtfdebooimbbdbaaM
import Derived.WalkKit
import Derived.ProofKit
import Derived.Handy
import Derived.WalkLawsBesides
import Derived.WalkSpells
import Derived.BigQuiet
import Derived.BigCall
import Derived.Deep.QuietTactic
import Derived.Deep.Light
import Derived.Deep.OwnRows
import Derived.Laws.AppendOwnNone
import Derived.Laws.Strings3
import Derived.Laws.RangeAny
import Derived.Deep.RegionWith
import Derived.Lib.BitFns
import Derived.Lib.Walk
import Derived.Lib.Strings
import Derived.Lib.OthersKept
import Derived.Deep.CutBlock
import Derived.Deep.DeepCutAuto
import Derived.Deep.LoopGhost
import Derived.Deep.RegionHeld3
import Derived.Lib.SmallJoins
import Derived.Maps.AppendAt
import Derived.Laws.IdiomStrings
import Derived.Lib.AppendZeros
namespace Go.Proofs.Ytfdebooimbbdbaa
open Go.RowKit
set_option linter.unusedVariables false
set_option linter.unusedSimpArgs false
set_option maxHeartbeats 2000000 in
theorem ldoes0 (B p q : Nat) (S : St) (w : World) (h : Both B p q S w) (c i : Int) (t : ByteArray) (n : Int) (K : Nat → Int) (hM : t.size ≤ maxLen) : Calls Try.prog 10 #[.pointer (some ⟨p, 0, none⟩), .pointer (some ⟨q, 0, none⟩), .agg (acells 0 i t n K)] w fun e w' => e = .returned (.bool true) ∧ Both B p q (app S i t).1 w' ∧ Below B w w' := by
  have HS := Mid.start h (acells 0 i t n K)
  have HR : Hid (∀ w, Calls Try.prog 21 #[.agg (rcells S), .int .i64 i, .string t] w fun e w' => e = .returned (.tuple #[.agg (rcells (app S i t).1), .int .i64 (app S i t).2]) ∧ Below w.heap.size w w') := fun w => rappend S h.ok i t hM w
  have HP : Hid (∀ (w' : World) (X : St), Mid B p q w.heap.size S S X (acells 0 i t n K) w w' → Calls Try.prog 17 #[.pointer (some ⟨p, 0, none⟩), .int .i64 i, .string t] w' fun e w2 => e = .returned (.int .i64 (app S i t).2) ∧ Mid B p q w.heap.size (app S i t).1 S X (acells 0 i t n K) w w2) := by
    intro w' X hm
    obtain ⟨V, hd⟩ := hm.dk
    refine (xappend B p S V w' hd hm.ok i t hM).mono ?_
    rintro e w2 ⟨rfl, hc'⟩
    first
      | exact ⟨rfl, hm.prog hc' (app_ok hm.ok i t)⟩
      | (obtain ⟨V', hc⟩ := hc'; exact ⟨rfl, hm.prog hc (app_ok hm.ok i t)⟩)
  obtain ⟨a0, a1, a2, a3, a4, a5, a6, a7, a8, a9⟩ := ten_of h.bq
  have hql := lt_of_blk h.bq
  have HX : Hid (Mid B p q w.heap.size S S S (acells 0 i t n K) w ((w.alloc (.cells (acells 0 i t n K) 33)).alloc (.cells (rcells S) 29))) := HS
  clear h HS hM
  unfold acells
  go_enter Try.func10, Try.ntmps10
  go_upto_region 7 with fail
  clear a0 a1 a2 a3 a4 a5 a6 a7 a8 a9
  show Code.wp _ _ _ _ ((w.alloc (.cells (acells 0 i t n K) 33)).alloc (.cells (rcells S) 29))
  generalize (w.alloc (.cells (acells 0 i t n K) 33)).alloc (.cells (rcells S) 29) = wA at *
  generalize w.heap.size = z at *
  generalize hT : (app S i t).1 = T at *
  generalize (app S i t).2 = d at *
  have HQ : Hid ((app S i t).1 = T) := hT
  clear hT
  have hten := ten_of HX.out.bq
  have x1 : wA.cell? ⟨z, 1, none⟩ = some (.int .i64 i) := HX.out.ac 1
  have x2 : wA.cell? ⟨z, 2, none⟩ = some (.string t) := HX.out.ac 2
  have HK : Hid (∀ (n' : Nat) (w3 : World), Below (wA.drewN n').heap.size (wA.drewN n') w3 → (Ten w3 q S ∧ w3.cell? ⟨z, 1, none⟩ = some (.int .i64 i) ∧ w3.cell? ⟨z, 2, none⟩ = some (.string t)) ∧ (storeCells ⟨z + 1, 0, none⟩ (rcells T).toList).run Try.prog w3 = .ok () (w3.setRow (z + 1) (rcells T)) ∧ Ten (w3.setRow (z + 1) (rcells T)) q S ∧ (w3.setRow (z + 1) (rcells T)).cell? ⟨z, 1, none⟩ = some (.int .i64 i) ∧ (w3.setRow (z + 1) (rcells T)).cell? ⟨z, 2, none⟩ = some (.string t)) := by
    intro n' w3 hb
    have hm := HX.out.belowN hb
    have hm2 := hm.setX T
    exact ⟨⟨ten_of hm.bq, hm.ac 1, hm.ac 2⟩, run_put w3 (z + 1) S T hm.nxt, ten_of hm2.bq, hm2.ac 1, hm2.ac 2⟩
  have hsz : (rcells T).size = 10 := rfl
  unfold Ten at hten
  go_region_held3 (fun w' => (w'.cell? ⟨q, 0, none⟩ = some (.string (S.f 0)) ∧ w'.cell? ⟨q, 1, none⟩ = some (.int .i64 (S.s 0)) ∧ w'.cell? ⟨q, 2, none⟩ = some (.string (S.f 1)) ∧ w'.cell? ⟨q, 3, none⟩ = some (.int .i64 (S.s 1)) ∧ w'.cell? ⟨q, 4, none⟩ = some (.string (S.f 2)) ∧ w'.cell? ⟨q, 5, none⟩ = some (.int .i64 (S.s 2)) ∧ w'.cell? ⟨q, 6, none⟩ = some (.string (S.f 3)) ∧ w'.cell? ⟨q, 7, none⟩ = some (.int .i64 (S.s 3)) ∧ w'.cell? ⟨q, 8, none⟩ = some (.int .i64 S.lim) ∧ w'.cell? ⟨q, 9, none⟩ = some (.bool S.gone)) ∧ w'.cell? ⟨z, 1, none⟩ = some (.int .i64 i) ∧ w'.cell? ⟨z, 2, none⟩ = some (.string t)) (first | go_keep | exact (HK.out _ _ hb3).1 | exact (HK.out _ _ hb3).2.2) (first | (go_at_call 21; go_must (refine (HR.out _).mono ?_; rintro e w3 ⟨rfl, hb3⟩; have hst3 := (HK.out _ _ hb3).2.1)))
  have HM4 : Hid (Mid B p q z S S T (acells 0 i t n K) w (w3.setRow (z + 1) (rcells T))) := (HX.out.belowN hb3).setX T
  clear HK HX hst3 hb3 hten x1 x2 HR
  rename_i hHeld
  clear hHeld
  generalize w3.setRow (z + 1) (rcells T) = w4 at *
  have y1 : w4.cell? ⟨z, 1, none⟩ = some (.int .i64 i) := HM4.out.ac 1
  have y2 : w4.cell? ⟨z, 2, none⟩ = some (.string t) := HM4.out.ac 2
  go_wp2_with fail
  refine (HP.out _ T HM4.out).mono ?_
  rintro e w5 ⟨rfl, hm5⟩
  have HM5 : Hid (Mid B p q z T S T (acells 0 i t n K) w w5) := hm5
  obtain ⟨c0, c1, c2, c3, c4, c5, c6, c7, c8, c9⟩ := ten_of hm5.nxt
  obtain ⟨b0, b1, b2, b3, b4, b5, b6, b7, b8, b9⟩ := ten_of hm5.bq
  have hfr := froz_of_blk hm5.bq
  have f0 := hfr 0
  have f1 := hfr 1
  have f2 := hfr 2
  have f3 := hfr 3
  have f4 := hfr 4
  have f5 := hfr 5
  have f6 := hfr 6
  have f7 := hfr 7
  have f8 := hfr 8
  have f9 := hfr 9
  clear hfr
  have HT : Hid _ := ten_set T hm5.bq
  clear hm5 HP HM4
  clear y1 y2
  go_wp2_with fail
  go_ret
  rw [HT.out, HQ.out]
  exact ⟨rfl, HM5.out.fin⟩
set_option maxHeartbeats 2000000 in
theorem ldoes1 (B p q : Nat) (S : St) (w : World) (h : Both B p q S w) (c i : Int) (t : ByteArray) (n : Int) (K : Nat → Int) : Calls Try.prog 10 #[.pointer (some ⟨p, 0, none⟩), .pointer (some ⟨q, 0, none⟩), .agg (acells 1 i t n K)] w fun e w' => e = .returned (.bool true) ∧ Both B p q (syn S i).1 w' ∧ Below B w w' := by
  have HS := Mid.start h (acells 1 i t n K)
  have HR : Hid (∀ w, Calls Try.prog 22 #[.agg (rcells S), .int .i64 i] w fun e w' => e = .returned (.tuple #[.agg (rcells (syn S i).1), .int .i64 (syn S i).2]) ∧ Below w.heap.size w w') := fun w => rsync S h.ok i w
  have HP : Hid (∀ (w' : World) (X : St), Mid B p q w.heap.size S S X (acells 1 i t n K) w w' → Calls Try.prog 18 #[.pointer (some ⟨p, 0, none⟩), .int .i64 i] w' fun e w2 => e = .returned (.int .i64 (syn S i).2) ∧ Mid B p q w.heap.size (syn S i).1 S X (acells 1 i t n K) w w2) := by
    intro w' X hm
    obtain ⟨V, hd⟩ := hm.dk
    refine (xsyncD B p S V w' hd hm.ok i).mono ?_
    rintro e w2 ⟨rfl, hc'⟩
    first
      | exact ⟨rfl, hm.prog hc' (syn_ok hm.ok i)⟩
      | (obtain ⟨V', hc⟩ := hc'; exact ⟨rfl, hm.prog hc (syn_ok hm.ok i)⟩)
  obtain ⟨a0, a1, a2, a3, a4, a5, a6, a7, a8, a9⟩ := ten_of h.bq
  have hql := lt_of_blk h.bq
  have HX : Hid (Mid B p q w.heap.size S S S (acells 1 i t n K) w ((w.alloc (.cells (acells 1 i t n K) 33)).alloc (.cells (rcells S) 29))) := HS
  clear h HS 
  unfold acells
  go_enter Try.func10, Try.ntmps10
  go_upto_region 10 with fail
  clear a0 a1 a2 a3 a4 a5 a6 a7 a8 a9
  show Code.wp _ _ _ _ ((w.alloc (.cells (acells 1 i t n K) 33)).alloc (.cells (rcells S) 29))
  generalize (w.alloc (.cells (acells 1 i t n K) 33)).alloc (.cells (rcells S) 29) = wA at *
  generalize w.heap.size = z at *
  generalize hT : (syn S i).1 = T at *
  generalize (syn S i).2 = d at *
  have HQ : Hid ((syn S i).1 = T) := hT
  clear hT
  have hten := ten_of HX.out.bq
  have x1 : wA.cell? ⟨z, 1, none⟩ = some (.int .i64 i) := HX.out.ac 1
  have HK : Hid (∀ (n' : Nat) (w3 : World), Below (wA.drewN n').heap.size (wA.drewN n') w3 → (Ten w3 q S ∧ w3.cell? ⟨z, 1, none⟩ = some (.int .i64 i)) ∧ (storeCells ⟨z + 1, 0, none⟩ (rcells T).toList).run Try.prog w3 = .ok () (w3.setRow (z + 1) (rcells T)) ∧ Ten (w3.setRow (z + 1) (rcells T)) q S ∧ (w3.setRow (z + 1) (rcells T)).cell? ⟨z, 1, none⟩ = some (.int .i64 i)) := by
    intro n' w3 hb
    have hm := HX.out.belowN hb
    have hm2 := hm.setX T
    exact ⟨⟨ten_of hm.bq, hm.ac 1⟩, run_put w3 (z + 1) S T hm.nxt, ten_of hm2.bq, hm2.ac 1⟩
  have hsz : (rcells T).size = 10 := rfl
  unfold Ten at hten
  go_region_held3 (fun w' => (w'.cell? ⟨q, 0, none⟩ = some (.string (S.f 0)) ∧ w'.cell? ⟨q, 1, none⟩ = some (.int .i64 (S.s 0)) ∧ w'.cell? ⟨q, 2, none⟩ = some (.string (S.f 1)) ∧ w'.cell? ⟨q, 3, none⟩ = some (.int .i64 (S.s 1)) ∧ w'.cell? ⟨q, 4, none⟩ = some (.string (S.f 2)) ∧ w'.cell? ⟨q, 5, none⟩ = some (.int .i64 (S.s 2)) ∧ w'.cell? ⟨q, 6, none⟩ = some (.string (S.f 3)) ∧ w'.cell? ⟨q, 7, none⟩ = some (.int .i64 (S.s 3)) ∧ w'.cell? ⟨q, 8, none⟩ = some (.int .i64 S.lim) ∧ w'.cell? ⟨q, 9, none⟩ = some (.bool S.gone)) ∧ w'.cell? ⟨z, 1, none⟩ = some (.int .i64 i)) (first | go_keep | exact (HK.out _ _ hb3).1 | exact (HK.out _ _ hb3).2.2) (first | (go_at_call 22; go_must (refine (HR.out _).mono ?_; rintro e w3 ⟨rfl, hb3⟩; have hst3 := (HK.out _ _ hb3).2.1)))
  have HM4 : Hid (Mid B p q z S S T (acells 1 i t n K) w (w3.setRow (z + 1) (rcells T))) := (HX.out.belowN hb3).setX T
  clear HK HX hst3 hb3 hten x1 HR
  rename_i hHeld
  clear hHeld
  generalize w3.setRow (z + 1) (rcells T) = w4 at *
  have y1 : w4.cell? ⟨z, 1, none⟩ = some (.int .i64 i) := HM4.out.ac 1
  go_wp2_with fail
  refine (HP.out _ T HM4.out).mono ?_
  rintro e w5 ⟨rfl, hm5⟩
  have HM5 : Hid (Mid B p q z T S T (acells 1 i t n K) w w5) := hm5
  obtain ⟨c0, c1, c2, c3, c4, c5, c6, c7, c8, c9⟩ := ten_of hm5.nxt
  obtain ⟨b0, b1, b2, b3, b4, b5, b6, b7, b8, b9⟩ := ten_of hm5.bq
  have hfr := froz_of_blk hm5.bq
  have f0 := hfr 0
  have f1 := hfr 1
  have f2 := hfr 2
  have f3 := hfr 3
  have f4 := hfr 4
  have f5 := hfr 5
  have f6 := hfr 6
  have f7 := hfr 7
  have f8 := hfr 8
  have f9 := hfr 9
  clear hfr
  have HT : Hid _ := ten_set T hm5.bq
  clear hm5 HP HM4
  clear y1
  go_wp2_with fail
  go_ret
  rw [HT.out, HQ.out]
  exact ⟨rfl, HM5.out.fin⟩
end Go.Proofs.Ytfdebooimbbdbaa
