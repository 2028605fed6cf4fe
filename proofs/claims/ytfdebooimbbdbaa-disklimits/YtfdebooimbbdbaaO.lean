/- A call of both, kind by kind (2). -/
import Derived.Test.YtfdebooimbbdbaaN
import Derived.WalkKit
import Derived.ProofKit
import Derived.Handy
import Derived.WalkLawsBesides
import Derived.WalkSpells
import Derived.BigQuiet
import Derived.BigCall
import Derived.Deep.QuietTactic
import Derived.Deep.Light
import Derived.Deep.OwnRows
import Derived.Laws.AppendOwnNone
import Derived.Laws.Strings3
import Derived.Laws.RangeAny
import Derived.Deep.RegionWith
import Derived.Lib.BitFns
import Derived.Lib.Walk
import Derived.Lib.Strings
import Derived.Lib.OthersKept
import Derived.Deep.CutBlock
import Derived.Deep.DeepCutAuto
import Derived.Deep.LoopGhost
import Derived.Deep.RegionHeld3
import Derived.Lib.SmallJoins
import Derived.Maps.AppendAt
import Derived.Laws.IdiomStrings
import Derived.Lib.AppendZeros
namespace Go.Proofs.Ytfdebooimbbdbaa
open Go.RowKit
set_option linter.unusedVariables false
set_option linter.unusedSimpArgs false
set_option maxHeartbeats 2000000 in
theorem ldoes2 (B p q : Nat) (S : St) (w : World) (h : Both B p q S w) (c i : Int) (t : ByteArray) (n : Int) (K : Nat → Int) : Calls Try.prog 10 #[.pointer (some ⟨p, 0, none⟩), .pointer (some ⟨q, 0, none⟩), .agg (acells 2 i t n K)] w fun e w' => e = .returned (.bool true) ∧ Both B p q (ctf S i n).1 w' ∧ Below B w w' := by
  have HS := Mid.start h (acells 2 i t n K)
  have HR : Hid (∀ w, Calls Try.prog 23 #[.agg (rcells S), .int .i64 i, .int .i64 n] w fun e w' => e = .returned (.tuple #[.agg (rcells (ctf S i n).1), .int .i64 (ctf S i n).2]) ∧ Below w.heap.size w w') := fun w => rcut S h.ok i n w
  have HP : Hid (∀ (w' : World) (X : St), Mid B p q w.heap.size S S X (acells 2 i t n K) w w' → Calls Try.prog 20 #[.pointer (some ⟨p, 0, none⟩), .int .i64 i, .int .i64 n] w' fun e w2 => e = .returned (.int .i64 (ctf S i n).2) ∧ Mid B p q w.heap.size (ctf S i n).1 S X (acells 2 i t n K) w w2) := by
    intro w' X hm
    obtain ⟨V, hd⟩ := hm.dk
    refine (xcutD B p S V w' hd hm.ok i n).mono ?_
    rintro e w2 ⟨rfl, hc'⟩
    first
      | exact ⟨rfl, hm.prog hc' (ctf_ok hm.ok i n)⟩
      | (obtain ⟨V', hc⟩ := hc'; exact ⟨rfl, hm.prog hc (ctf_ok hm.ok i n)⟩)
  obtain ⟨a0, a1, a2, a3, a4, a5, a6, a7, a8, a9⟩ := ten_of h.bq
  have hql := lt_of_blk h.bq
  have HX : Hid (Mid B p q w.heap.size S S S (acells 2 i t n K) w ((w.alloc (.cells (acells 2 i t n K) 33)).alloc (.cells (rcells S) 29))) := HS
  clear h HS 
  unfold acells
  go_enter Try.func10, Try.ntmps10
  go_upto_region 13 with fail
  clear a0 a1 a2 a3 a4 a5 a6 a7 a8 a9
  show Code.wp _ _ _ _ ((w.alloc (.cells (acells 2 i t n K) 33)).alloc (.cells (rcells S) 29))
  generalize (w.alloc (.cells (acells 2 i t n K) 33)).alloc (.cells (rcells S) 29) = wA at *
  generalize w.heap.size = z at *
  generalize hT : (ctf S i n).1 = T at *
  generalize (ctf S i n).2 = d at *
  have HQ : Hid ((ctf S i n).1 = T) := hT
  clear hT
  have hten := ten_of HX.out.bq
  have x1 : wA.cell? ⟨z, 1, none⟩ = some (.int .i64 i) := HX.out.ac 1
  have x3 : wA.cell? ⟨z, 3, none⟩ = some (.int .i64 n) := HX.out.ac 3
  have HK : Hid (∀ (n' : Nat) (w3 : World), Below (wA.drewN n').heap.size (wA.drewN n') w3 → (Ten w3 q S ∧ w3.cell? ⟨z, 1, none⟩ = some (.int .i64 i) ∧ w3.cell? ⟨z, 3, none⟩ = some (.int .i64 n)) ∧ (storeCells ⟨z + 1, 0, none⟩ (rcells T).toList).run Try.prog w3 = .ok () (w3.setRow (z + 1) (rcells T)) ∧ Ten (w3.setRow (z + 1) (rcells T)) q S ∧ (w3.setRow (z + 1) (rcells T)).cell? ⟨z, 1, none⟩ = some (.int .i64 i) ∧ (w3.setRow (z + 1) (rcells T)).cell? ⟨z, 3, none⟩ = some (.int .i64 n)) := by
    intro n' w3 hb
    have hm := HX.out.belowN hb
    have hm2 := hm.setX T
    exact ⟨⟨ten_of hm.bq, hm.ac 1, hm.ac 3⟩, run_put w3 (z + 1) S T hm.nxt, ten_of hm2.bq, hm2.ac 1, hm2.ac 3⟩
  have hsz : (rcells T).size = 10 := rfl
  unfold Ten at hten
  go_region_held3 (fun w' => (w'.cell? ⟨q, 0, none⟩ = some (.string (S.f 0)) ∧ w'.cell? ⟨q, 1, none⟩ = some (.int .i64 (S.s 0)) ∧ w'.cell? ⟨q, 2, none⟩ = some (.string (S.f 1)) ∧ w'.cell? ⟨q, 3, none⟩ = some (.int .i64 (S.s 1)) ∧ w'.cell? ⟨q, 4, none⟩ = some (.string (S.f 2)) ∧ w'.cell? ⟨q, 5, none⟩ = some (.int .i64 (S.s 2)) ∧ w'.cell? ⟨q, 6, none⟩ = some (.string (S.f 3)) ∧ w'.cell? ⟨q, 7, none⟩ = some (.int .i64 (S.s 3)) ∧ w'.cell? ⟨q, 8, none⟩ = some (.int .i64 S.lim) ∧ w'.cell? ⟨q, 9, none⟩ = some (.bool S.gone)) ∧ w'.cell? ⟨z, 1, none⟩ = some (.int .i64 i) ∧ w'.cell? ⟨z, 3, none⟩ = some (.int .i64 n)) (first | go_keep | exact (HK.out _ _ hb3).1 | exact (HK.out _ _ hb3).2.2) (first | (go_at_call 23; go_must (refine (HR.out _).mono ?_; rintro e w3 ⟨rfl, hb3⟩; have hst3 := (HK.out _ _ hb3).2.1)))
  have HM4 : Hid (Mid B p q z S S T (acells 2 i t n K) w (w3.setRow (z + 1) (rcells T))) := (HX.out.belowN hb3).setX T
  clear HK HX hst3 hb3 hten x1 x3 HR
  rename_i hHeld
  clear hHeld
  generalize w3.setRow (z + 1) (rcells T) = w4 at *
  have y1 : w4.cell? ⟨z, 1, none⟩ = some (.int .i64 i) := HM4.out.ac 1
  have y3 : w4.cell? ⟨z, 3, none⟩ = some (.int .i64 n) := HM4.out.ac 3
  go_wp2_with fail
  refine (HP.out _ T HM4.out).mono ?_
  rintro e w5 ⟨rfl, hm5⟩
  have HM5 : Hid (Mid B p q z T S T (acells 2 i t n K) w w5) := hm5
  obtain ⟨c0, c1, c2, c3, c4, c5, c6, c7, c8, c9⟩ := ten_of hm5.nxt
  obtain ⟨b0, b1, b2, b3, b4, b5, b6, b7, b8, b9⟩ := ten_of hm5.bq
  have hfr := froz_of_blk hm5.bq
  have f0 := hfr 0
  have f1 := hfr 1
  have f2 := hfr 2
  have f3 := hfr 3
  have f4 := hfr 4
  have f5 := hfr 5
  have f6 := hfr 6
  have f7 := hfr 7
  have f8 := hfr 8
  have f9 := hfr 9
  clear hfr
  have HT : Hid _ := ten_set T hm5.bq
  clear hm5 HP HM4
  clear y1 y3
  go_wp2_with fail
  go_ret
  rw [HT.out, HQ.out]
  exact ⟨rfl, HM5.out.fin⟩
set_option maxHeartbeats 2000000 in
theorem ldoes4 (B p q : Nat) (S : St) (w : World) (h : Both B p q S w) (c i : Int) (t : ByteArray) (n : Int) (K : Nat → Int) (hK : ∀ j, -9223372036854775808 ≤ K j ∧ K j ≤ 9223372036854775807) (h0 : (c == 0) = false) (h1 : (c == 1) = false) (h2 : (c == 2) = false) (h3 : (c == 3) = false) : Calls Try.prog 10 #[.pointer (some ⟨p, 0, none⟩), .pointer (some ⟨q, 0, none⟩), .agg (acells c i t n K)] w fun e w' => e = .returned (.bool true) ∧ Both B p q (crs S K) w' ∧ Below B w w' := by
  have HS := Mid.start h (acells c i t n K)
  have HR : Hid (∀ w, Calls Try.prog 24 #[.agg (rcells S), .agg (kcells K)] w fun e w' => e = .returned (.agg (rcells (crs S K))) ∧ Below w.heap.size w w') := fun w => rcrash S h.ok K hK w
  have HP : Hid (∀ (w' : World) (X : St), Mid B p q w.heap.size S S X (acells c i t n K) w w' → Calls Try.prog 15 #[.pointer (some ⟨p, 0, none⟩), .agg (kcells K)] w' fun e w2 => e = .returned (.tuple #[]) ∧ Mid B p q w.heap.size (crs S K) S X (acells c i t n K) w w2) := by
    intro w' X hm
    obtain ⟨V, hd⟩ := hm.dk
    refine (xcrash B p S V w' hd hm.ok K hK).mono ?_
    rintro e w2 ⟨rfl, hc'⟩
    first
      | exact ⟨rfl, hm.prog hc' (crs_ok hm.ok K)⟩
      | (obtain ⟨V', hc⟩ := hc'; exact ⟨rfl, hm.prog hc (crs_ok hm.ok K)⟩)
  obtain ⟨a0, a1, a2, a3, a4, a5, a6, a7, a8, a9⟩ := ten_of h.bq
  have hql := lt_of_blk h.bq
  have HX : Hid (Mid B p q w.heap.size S S S (acells c i t n K) w ((w.alloc (.cells (acells c i t n K) 33)).alloc (.cells (rcells S) 29))) := HS
  clear h HS hK
  unfold acells
  go_enter Try.func10, Try.ntmps10
  go_upto_region 4 with fail
  clear a0 a1 a2 a3 a4 a5 a6 a7 a8 a9
  show Code.wp _ _ _ _ ((w.alloc (.cells (acells c i t n K) 33)).alloc (.cells (rcells S) 29))
  generalize (w.alloc (.cells (acells c i t n K) 33)).alloc (.cells (rcells S) 29) = wA at *
  generalize w.heap.size = z at *
  generalize hT : (crs S K) = T at *
  have HQ : Hid ((crs S K) = T) := hT
  clear hT
  have hten := ten_of HX.out.bq
  have x4 : wA.cell? ⟨z, 4, none⟩ = some (.int .i64 (K 0)) := HX.out.ac 4
  have x5 : wA.cell? ⟨z, 5, none⟩ = some (.int .i64 (K 1)) := HX.out.ac 5
  have x6 : wA.cell? ⟨z, 6, none⟩ = some (.int .i64 (K 2)) := HX.out.ac 6
  have x7 : wA.cell? ⟨z, 7, none⟩ = some (.int .i64 (K 3)) := HX.out.ac 7
  have HK : Hid (∀ (n' : Nat) (w3 : World), Below (wA.drewN n').heap.size (wA.drewN n') w3 → (Ten w3 q S ∧ w3.cell? ⟨z, 4, none⟩ = some (.int .i64 (K 0)) ∧ w3.cell? ⟨z, 5, none⟩ = some (.int .i64 (K 1)) ∧ w3.cell? ⟨z, 6, none⟩ = some (.int .i64 (K 2)) ∧ w3.cell? ⟨z, 7, none⟩ = some (.int .i64 (K 3))) ∧ (storeCells ⟨z + 1, 0, none⟩ (rcells T).toList).run Try.prog w3 = .ok () (w3.setRow (z + 1) (rcells T)) ∧ Ten (w3.setRow (z + 1) (rcells T)) q S ∧ (w3.setRow (z + 1) (rcells T)).cell? ⟨z, 4, none⟩ = some (.int .i64 (K 0)) ∧ (w3.setRow (z + 1) (rcells T)).cell? ⟨z, 5, none⟩ = some (.int .i64 (K 1)) ∧ (w3.setRow (z + 1) (rcells T)).cell? ⟨z, 6, none⟩ = some (.int .i64 (K 2)) ∧ (w3.setRow (z + 1) (rcells T)).cell? ⟨z, 7, none⟩ = some (.int .i64 (K 3))) := by
    intro n' w3 hb
    have hm := HX.out.belowN hb
    have hm2 := hm.setX T
    exact ⟨⟨ten_of hm.bq, hm.ac 4, hm.ac 5, hm.ac 6, hm.ac 7⟩, run_put w3 (z + 1) S T hm.nxt, ten_of hm2.bq, hm2.ac 4, hm2.ac 5, hm2.ac 6, hm2.ac 7⟩
  have hsz : (rcells T).size = 10 := rfl
  unfold Ten at hten
  go_region_held3 (fun w' => (w'.cell? ⟨q, 0, none⟩ = some (.string (S.f 0)) ∧ w'.cell? ⟨q, 1, none⟩ = some (.int .i64 (S.s 0)) ∧ w'.cell? ⟨q, 2, none⟩ = some (.string (S.f 1)) ∧ w'.cell? ⟨q, 3, none⟩ = some (.int .i64 (S.s 1)) ∧ w'.cell? ⟨q, 4, none⟩ = some (.string (S.f 2)) ∧ w'.cell? ⟨q, 5, none⟩ = some (.int .i64 (S.s 2)) ∧ w'.cell? ⟨q, 6, none⟩ = some (.string (S.f 3)) ∧ w'.cell? ⟨q, 7, none⟩ = some (.int .i64 (S.s 3)) ∧ w'.cell? ⟨q, 8, none⟩ = some (.int .i64 S.lim) ∧ w'.cell? ⟨q, 9, none⟩ = some (.bool S.gone)) ∧ w'.cell? ⟨z, 4, none⟩ = some (.int .i64 (K 0)) ∧ w'.cell? ⟨z, 5, none⟩ = some (.int .i64 (K 1)) ∧ w'.cell? ⟨z, 6, none⟩ = some (.int .i64 (K 2)) ∧ w'.cell? ⟨z, 7, none⟩ = some (.int .i64 (K 3))) (first | go_keep | exact (HK.out _ _ hb3).1 | exact (HK.out _ _ hb3).2.2) (first | (go_at_call 24; go_must (refine (HR.out _).mono ?_; rintro e w3 ⟨rfl, hb3⟩; have hst3 := (HK.out _ _ hb3).2.1)))
  have HM4 : Hid (Mid B p q z S S T (acells c i t n K) w (w3.setRow (z + 1) (rcells T))) := (HX.out.belowN hb3).setX T
  clear HK HX hst3 hb3 hten x4 x5 x6 x7 HR
  rename_i hHeld
  clear hHeld
  generalize w3.setRow (z + 1) (rcells T) = w4 at *
  have y4 : w4.cell? ⟨z, 4, none⟩ = some (.int .i64 (K 0)) := HM4.out.ac 4
  have y5 : w4.cell? ⟨z, 5, none⟩ = some (.int .i64 (K 1)) := HM4.out.ac 5
  have y6 : w4.cell? ⟨z, 6, none⟩ = some (.int .i64 (K 2)) := HM4.out.ac 6
  have y7 : w4.cell? ⟨z, 7, none⟩ = some (.int .i64 (K 3)) := HM4.out.ac 7
  go_wp2_with fail
  refine (HP.out _ T HM4.out).mono ?_
  rintro e w5 ⟨rfl, hm5⟩
  have HM5 : Hid (Mid B p q z T S T (acells c i t n K) w w5) := hm5
  obtain ⟨c0, c1, c2, c3, c4, c5, c6, c7, c8, c9⟩ := ten_of hm5.nxt
  obtain ⟨b0, b1, b2, b3, b4, b5, b6, b7, b8, b9⟩ := ten_of hm5.bq
  have hfr := froz_of_blk hm5.bq
  have f0 := hfr 0
  have f1 := hfr 1
  have f2 := hfr 2
  have f3 := hfr 3
  have f4 := hfr 4
  have f5 := hfr 5
  have f6 := hfr 6
  have f7 := hfr 7
  have f8 := hfr 8
  have f9 := hfr 9
  clear hfr
  have HT : Hid _ := ten_set T hm5.bq
  clear hm5 HP HM4
  clear y4 y5 y6 y7
  go_wp2_with fail
  go_ret
  rw [HT.out, HQ.out]
  exact ⟨rfl, HM5.out.fin⟩
end Go.Proofs.Ytfdebooimbbdbaa
