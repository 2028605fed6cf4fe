/- The reference's reader: Ints. -/
import Derived.Test.YtgdoeflnfcjefaaR
import Derived.Test.YtgdoeflnfcjefaaH
import Derived.WalkKit
import Derived.ProofKit
import Derived.Handy
import Derived.WalkLawsBesides
import Derived.WalkSpells
import Derived.BigQuiet
import Derived.BigCall
import Derived.Deep.QuietTactic
import Derived.Deep.Light
import Derived.Deep.OwnRows
import Derived.Laws.AppendOwnNone
import Derived.Laws.Strings3
import Derived.Laws.RangeAny
import Derived.Deep.RegionWith
import Derived.Lib.BitFns
import Derived.Lib.Walk
import Derived.Lib.Strings
import Derived.Lib.OthersKept
import Derived.Deep.CutBlock
import Derived.Deep.DeepCutAuto
import Derived.Deep.LoopGhost
import Derived.Deep.RegionHeld3
import Derived.Lib.SmallJoins
import Derived.Maps.AppendAt
import Derived.Laws.IdiomStrings
import Derived.Lib.AppendZeros
import Derived.Deep.WholeRow
import Derived.Laws.BitsAllLaws
import Derived.Lib.ConvBytes
import Derived.Deep.RegionLaw
namespace Go.Proofs.Ytgdoeflnfcjefaa
open Go.RowKit
set_option linter.unusedVariables false
set_option linter.unusedSimpArgs false
theorem own_ne3 {B : Nat} {w : World} {p : Nat} {T : Nat} {cs : Array Value} {fz : Nat × Nat} {v : Value} {n : Nat} {xs : List Value} (h : w.ownsRow B 3 1 v n xs) (hp : w.heap[p]? = some (.cells cs T fz)) (hT : T ≠ 3) : v.ownBlock ≠ some p := by
  intro e
  rcases h.2 with ⟨rfl, _⟩ | ⟨g, cap, cur, rfl, _, hg, _⟩
  · cases e
  · obtain rfl : g = p := Option.some.inj e
    rw [hp] at hg
    injection hg with hg
    injection hg with _ e2 _
    exact hT e2
theorem own_same3 {B : Nat} {w w' : World} {v : Value} {n : Nat} {xs : List Value} (h : w.ownsRow B 3 1 v n xs) (hb : ∀ g, v.ownBlock = some g → w'.heap[g]? = w.heap[g]?) : w'.ownsRow B 3 1 v n xs := by
  refine ⟨h.1, ?_⟩
  rcases h.2 with h2 | ⟨g, cap, cur, hv, hB, hg, hr⟩
  · exact .inl h2
  · exact .inr ⟨g, cap, cur, hv, hB, (hb g (by rw [hv]; rfl)).trans hg, hr⟩
theorem own_lt3 {B : Nat} {w : World} {v : Value} {n : Nat} {xs : List Value} (h : w.ownsRow B 3 1 v n xs) {g : Nat} (hg : v.ownBlock = some g) : g < w.heap.size := by
  rcases h.2 with ⟨rfl, _⟩ | ⟨g', cap, cur, rfl, _, hb, _⟩
  · cases hg
  · obtain rfl : g' = g := Option.some.inj hg
    exact (Array.getElem?_eq_some_iff.1 hb).1
theorem own_keep3 {B : Nat} {w w' : World} {v : Value} {n : Nat} {xs : List Value} (h : w.ownsRow B 3 1 v n xs) (hb : Below w.heap.size w w') : w'.ownsRow B 3 1 v n xs := own_same3 h fun g hg => hb.block g (own_lt3 h hg)
theorem own_row3 {B : Nat} {w : World} {v : Value} {n z : Nat} {xs : List Value} {r : Rd} {cs : Array Value} (h : w.ownsRow B 3 1 v n xs) (hz : Rq w z r) : (w.setRow z cs).ownsRow B 3 1 v n xs :=
  own_same3 h fun g hg => setRow_other w z g cs (by rintro rfl; exact own_ne3 h hz.blk (by decide) hg)
theorem Rq.grown {B : Nat} {w w' : World} {v : Value} {n z : Nat} {xs : List Value} {r : Rd} (h : Rq w z r) (ho : w.ownsRow B 3 1 v n xs) (hg : w.grownBy w' v.ownBlock) : Rq w' z r := h.same (hg.block z h.lt (fun e => own_ne3 ho h.blk (by decide) e.symm))
/-- what the reference's Ints hands back -/
def QI (l : List Int) (r : Rd) (w : World) (e : Ending) (w' : World) : Prop := ∃ v xs, e = .returned (.tuple #[.agg (qcells r), v]) ∧ Hid (w'.ownsRow w.heap.size 3 1 v xs.length (icells xs)) ∧ Hid (xs = l) ∧ Hid (Below w.heap.size w w')
theorem QI.mk {l xs : List Int} {r x : Rd} {w w' : World} {v : Value} (hx : x = r) (h : w'.ownsRow w.heap.size 3 1 v xs.length (icells xs)) (hl : xs = l) (hb : Below w.heap.size w w') : QI l r w (.returned (.tuple #[.agg (qcells x), v])) w' := ⟨v, xs, by rw [hx], h, hl, hb⟩
theorem ifl {r : Rd} {S : ByteArray} (hS : S = ⟨r.s.toArray⟩) {k : Rd} (hk : k.s = r.s) (hr : k.at_ ≤ r.s.length) (hs : r.s.length ≤ 1099511627776) (w : World) : Calls Try.prog 38 #[.agg #[.string S, .int .i64 k.at_, .int .i64 k.e]] w fun e w' => e = .returned (.tuple #[.agg #[.string S, .int .i64 (rInt k).1.at_, .int .i64 (rInt k).1.e], .int .i64 (rInt k).2]) ∧ Hid (Below w.heap.size w w') := by
  have h := qint k (by rw [hk]; exact hr) (by rw [hk]; exact hs) w
  unfold QP at h
  rw [qlit hS (X := (rInt k).1) ((rInt_ok (show k.Ok from by show k.at_ ≤ _; rw [hk]; exact hr)).2.1.trans hk), qlit hS hk] at h
  exact h
theorem cfl {r : Rd} {S : ByteArray} (hS : S = ⟨r.s.toArray⟩) {m : Int} (hm : I64 m) (hr : r.at_ ≤ r.s.length) (hs : r.s.length ≤ 1099511627776) (w : World) : Calls Try.prog 42 #[.agg #[.string S, .int .i64 r.at_, .int .i64 r.e], .int .i64 m] w fun e w' => e = .returned (.tuple #[.agg #[.string S, .int .i64 (rCount r m).1.at_, .int .i64 (rCount r m).1.e], .int .i64 (rCount r m).2]) ∧ Hid (Below w.heap.size w w') := by
  have h := qcount r m hm hr hs w
  unfold QP at h
  rw [qlit hS (X := (rCount r m).1) (rCount_ok (show r.Ok from hr) m).2, qlit hS rfl] at h
  exact h
set_option maxHeartbeats 4000000 in
theorem qints (r : Rd) (m : Int) (hm : I64 m) (hr : r.at_ ≤ r.s.length) (hs : r.s.length ≤ 1099511627776) (w : World) : Calls Try.prog 41 #[.agg (qcells r), .int .i64 m] w (QI (rInts r m).2 (rInts r m).1 w) := by
  obtain ⟨S, HS⟩ : ∃ S : ByteArray, Hid (S = ⟨r.s.toArray⟩) := ⟨_, rfl⟩
  have HC : Hid (∀ w, Calls Try.prog 42 #[.agg #[.string S, .int .i64 r.at_, .int .i64 r.e], .int .i64 m] w fun e w' => e = .returned (.tuple #[.agg #[.string S, .int .i64 (rCount r m).1.at_, .int .i64 (rCount r m).1.e], .int .i64 (rCount r m).2]) ∧ Hid (Below w.heap.size w w')) := fun w => cfl HS.out hm hr hs w
  have HI : Hid (∀ k : Rd, k.s = r.s → k.at_ ≤ r.s.length → ∀ w, Calls Try.prog 38 #[.agg #[.string S, .int .i64 k.at_, .int .i64 k.e]] w fun e w' => e = .returned (.tuple #[.agg #[.string S, .int .i64 (rInt k).1.at_, .int .i64 (rInt k).1.e], .int .i64 (rInt k).2]) ∧ Hid (Below w.heap.size w w')) := fun k hk ha w => ifl HS.out hk ha hs w
  have HU : Hid (rInts r m = if (rIs (rCount r m).2 (rCount r m).1).1.e ≠ 0 then ((rIs (rCount r m).2 (rCount r m).1).1, []) else rIs (rCount r m).2 (rCount r m).1) := rfl
  have HX : Hid ((rCount r m).1.s = r.s) := (rCount_ok (show r.Ok from hr) m).2
  have HXa : Hid ((rCount r m).1.at_ ≤ r.s.length) := by have h1 : (rCount r m).1.at_ ≤ (rCount r m).1.s.length := (rCount_ok (show r.Ok from hr) m).1; rw [HX.out] at h1; exact h1
  have HLs : Hid (r.s.length ≤ 1099511627776) := hs
  have hN : ((rCount r m).2 : Int) ≤ 9223372036854775807 := by
    have := hm.2
    rw [rCount_nxt]
    split
    · next hc =>
      show ((nxt r).2.1 : Int) ≤ _
      unfold cE at hc
      split at hc
      · exact absurd hc ‹_›
      · split at hc
        · omega
        · omega
    · show ((0 : Nat) : Int) ≤ _; omega
  have HN := Rq.new2 w r
  have HB0 : Hid (Below w.heap.size w ((w.alloc (.cells (qcells r) 39)).alloc (.cells (qcells ⟨[], 0, 0⟩) 39))) := HN.2.2
  have HQ0 : Hid (Rq ((w.alloc (.cells (qcells r) 39)).alloc (.cells (qcells ⟨[], 0, 0⟩) 39)) w.heap.size r) := HN.1
  have HO0 : Hid (Rq ((w.alloc (.cells (qcells r) 39)).alloc (.cells (qcells ⟨[], 0, 0⟩) 39)) (w.heap.size + 1) ⟨[], 0, 0⟩) := HN.2.1
  clear HN
  obtain ⟨hm1, hm2⟩ := hm
  clear hr hs
  generalize (rCount r m).2 = N at *
  generalize (rCount r m).1 = X at *
  go_enter Try.func41, Try.ntmps41
  go_upto_region 1 with fail
  show Code.wp _ _ _ _ ((w.alloc (.cells (qcells r) 39)).alloc (.cells (qcells ⟨[], 0, 0⟩) 39))
  generalize (w.alloc (.cells (qcells r) 39)).alloc (.cells (qcells ⟨[], 0, 0⟩) 39) = wA at *
  generalize hZ : w.heap.size = z at *
  have HZ : Hid (w.heap.size = z) := hZ
  clear hZ
  have c0 : wA.cell? ⟨z, 0, none⟩ = some (.string S) := by rw [HS.out]; exact HQ0.out.cell 0
  have c1 : wA.cell? ⟨z, 1, none⟩ = some (.int .i64 r.at_) := HQ0.out.cell 1
  have c2 : wA.cell? ⟨z, 2, none⟩ = some (.int .i64 r.e) := HQ0.out.cell 2
  go_wp2_with fail
  refine (HC.out _).mono ?_
  rintro e w3 ⟨rfl, HB3⟩
  have HQ3 : Hid (Rq w3 z r) := HQ0.out.keep HB3.out
  have HO3 : Hid (Rq w3 (z + 1) ⟨[], 0, 0⟩) := HO0.out.keep HB3.out
  have hAz : z ≤ wA.heap.size := by have := HB0.out.size; rw [HZ.out] at this; exact this
  have HB4 : Hid (Below z w w3) := HB0.out.trans (HB3.out.mono hAz)
  clear c0 c1 c2 hAz
  have c0 : w3.cell? ⟨z, 0, none⟩ = some (.string S) := by rw [HS.out]; exact HQ3.out.cell 0
  have c1 : w3.cell? ⟨z, 1, none⟩ = some (.int .i64 r.at_) := HQ3.out.cell 1
  have c2 : w3.cell? ⟨z, 2, none⟩ = some (.int .i64 r.e) := HQ3.out.cell 2
  have f0 := HQ3.out.froz 0
  have f1 := HQ3.out.froz 1
  have f2 := HQ3.out.froz 2
  have HT3 : Hid (((w3.setCell ⟨z, 0, none⟩ (.string S)).setCell ⟨z, 1, none⟩ (.int .i64 X.at_)).setCell ⟨z, 2, none⟩ (.int .i64 X.e) = w3.setRow z (qcells X)) := three_lit HQ3.out HS.out HX.out
  have HQ5 : Hid (Rq (w3.setRow z (qcells X)) z X) := HQ3.out.put X
  have HO5 : Hid (Rq (w3.setRow z (qcells X)) (z + 1) ⟨[], 0, 0⟩) := HO3.out.aside (by omega)
  have HB5 : Hid (Below z w (w3.setRow z (qcells X))) := below_setRow HB4.out (Nat.le_refl _)
  go_upto_region 2 with fail
  rw [HT3.out]
  generalize w3.setRow z (qcells X) = w5 at *
  clear c0 c1 c2 f0 f1 f2 HT3 HQ3 HO3 HB4 HB3 HQ0 HO0 HB0 HC
  go_wp2_with fail
  go_loopw [7, 8] (fun v i wr => ∃ (k : Nat) (xs : List Int) (rk : Rd), i = .int .i64 k ∧ k ≤ N ∧ xs.length = k ∧ Hid (wr.ownsRow z 3 1 v xs.length (icells xs)) ∧ Hid (Rq wr z rk) ∧ Hid (Rq wr (z + 1) ⟨[], 0, 0⟩) ∧ Hid (Below z w wr) ∧ Hid (Far N X k rk xs) ∧ Hid ((rk.e = 0 → k ≤ rk.at_) ∧ rk.s = r.s ∧ rk.at_ ≤ r.s.length)) (fun _ i _ => N - (Lib.intOf i).toNat)
  case atStart => exact ⟨0, [], X, rfl, Nat.zero_le _, rfl, World.ownsRow_nil _ _ _ _, HQ5, HO5, HB5, by unfold Hid Far; simp, ⟨fun _ => Nat.zero_le _, HX.out, HXa.out⟩⟩
  case round =>
    clear HQ5 HO5 HB5 HX HXa
    obtain ⟨k, xs, rk, rfl, hk, hxk, HW, HQ, HO, HB, HF, HK⟩ := hrel
    have c0 : wr.cell? ⟨z, 0, none⟩ = some (.string S) := by rw [HS.out, ← HK.out.2.1]; exact HQ.out.cell 0
    have c1 : wr.cell? ⟨z, 1, none⟩ = some (.int .i64 rk.at_) := HQ.out.cell 1
    have c2 : wr.cell? ⟨z, 2, none⟩ = some (.int .i64 rk.e) := HQ.out.cell 2
    have HKs : Hid (rk.s = r.s) := HK.out.2.1
    by_cases hkn : k < N
    · have hkz : (k : Int) < (N : Int) := by omega
      by_cases h0 : rk.e = 0
      · have hez : ((rk.e : Int) == 0) = true := by rw [h0]; rfl
        have hkl : k ≤ 1099511627776 := by have h1 := HK.out.1 h0; have h2 := HK.out.2.2; have h3 := HLs.out; omega
        have hokk : rk.Ok := by show rk.at_ ≤ _; rw [HKs.out]; exact HK.out.2.2
        have HIk : Hid (∀ w, Calls Try.prog 38 #[.agg #[.string S, .int .i64 rk.at_, .int .i64 rk.e]] w fun e w' => e = .returned (.tuple #[.agg #[.string S, .int .i64 (rInt rk).1.at_, .int .i64 (rInt rk).1.e], .int .i64 (rInt rk).2]) ∧ Hid (Below w.heap.size w w')) := fun w => HI.out rk HKs.out HK.out.2.2 w
        have HF2 : Hid (Far N X (k + 1) (rInt rk).1 (xs ++ [(rInt rk).2])) := HF.out.step hkn h0
        have HK2 : Hid (((rInt rk).1.e = 0 → k + 1 ≤ (rInt rk).1.at_) ∧ (rInt rk).1.s = r.s ∧ (rInt rk).1.at_ ≤ r.s.length) := by
          have h1 := rInt_ok hokk
          refine ⟨fun h => ?_, h1.2.1.trans HKs.out, ?_⟩
          · have h2 := (rInt_moves h0 h).1
            have h3 := HK.out.1 h0
            omega
          · have h2 : (rInt rk).1.at_ ≤ (rInt rk).1.s.length := h1.1
            rw [h1.2.1, HKs.out] at h2
            exact h2
        clear HK HF h0 hokk
        generalize (rInt rk).1 = Y at *
        generalize (rInt rk).2 = n at *
        go_wp2_with fail
        refine (HIk.out _).mono ?_
        rintro e w3 ⟨rfl, HB3⟩
        have hwz : z ≤ wr.heap.size := by have := HB.out.size; rw [HZ.out] at this; exact this
        have HQ3 : Hid (Rq w3 z rk) := HQ.out.keep HB3.out
        have HO3 : Hid (Rq w3 (z + 1) ⟨[], 0, 0⟩) := HO.out.keep HB3.out
        have HW3 : Hid (w3.ownsRow z 3 1 u7 xs.length (icells xs)) := own_keep3 HW.out HB3.out
        have HB4 : Hid (Below z w w3) := HB.out.trans (HB3.out.mono hwz)
        have h3z : z ≤ w3.heap.size := by have := HB4.out.size; rw [HZ.out] at this; exact this
        have HE3 : Hid (w3.alloc (.cells #[.string S, .int .i64 Y.at_, .int .i64 Y.e] 39) = w3.alloc (.cells (qcells Y) 39)) := by unfold Hid; rw [qlit HS.out HK2.out.2.1]
        have HQ5 : Hid (Rq (w3.alloc (.cells (qcells Y) 39)) z rk) := HQ3.out.keep (below_new _ _)
        have HO5 : Hid (Rq (w3.alloc (.cells (qcells Y) 39)) (z + 1) ⟨[], 0, 0⟩) := HO3.out.keep (below_new _ _)
        have HY5 : Hid (Rq (w3.alloc (.cells (qcells Y) 39)) w3.heap.size Y) := Rq.new _ _
        have HW5 : Hid ((w3.alloc (.cells (qcells Y) 39)).ownsRow z 3 1 u7 xs.length (icells xs)) := own_keep3 HW3.out (below_new _ _)
        have HB5 : Hid (Below z w (w3.alloc (.cells (qcells Y) 39))) := HB4.out.alloc h3z _
        clear c0 c1 c2
        go_upto_region 7 with fail
        rw [HE3.out]
        generalize w3.alloc (.cells (qcells Y) 39) = w5 at *
        generalize w3.heap.size = y at *
        clear HE3 HQ3 HO3 HB4 HB3 HW3 HQ HO HB HW h3z hwz HIk
        have h5z : z ≤ w5.heap.size := by have := HB5.out.size; rw [HZ.out] at this; exact this
        obtain ⟨v', w6, hr6, ho6, hg6⟩ := app_int HW5.out h5z n (by omega)
        have HR6 : Hid _ := hr6
        have HW6 : Hid (w6.ownsRow z 3 1 v' (xs ++ [n]).length (icells (xs ++ [n]))) := ho6
        have how := own_keep3 HW5.out (below_new w5 (.cells #[.int .i64 n] 3))
        have HQ6 : Hid (Rq w6 z rk) := (HQ5.out.keep (below_new _ _)).grown how hg6
        have HO6 : Hid (Rq w6 (z + 1) ⟨[], 0, 0⟩) := (HO5.out.keep (below_new _ _)).grown how hg6
        have HY6 : Hid (Rq w6 y Y) := (HY5.out.keep (below_new _ _)).grown how hg6
        have HB6 : Hid (Below z w w6) := (HB5.out.alloc h5z _).grown hg6 (by simp; omega) (fun j hj => (HW5.out.lt j hj).1)
        clear hr6 ho6 hg6 how HQ5 HO5 HY5 HB5 HW5 h5z
        have y0 : w6.cell? ⟨y, 0, none⟩ = some (.string S) := by rw [HS.out, ← HK2.out.2.1]; exact HY6.out.cell 0
        have y1 : w6.cell? ⟨y, 1, none⟩ = some (.int .i64 Y.at_) := HY6.out.cell 1
        have y2 : w6.cell? ⟨y, 2, none⟩ = some (.int .i64 Y.e) := HY6.out.cell 2
        have c0 : w6.cell? ⟨z, 0, none⟩ = some (.string S) := by rw [HS.out, ← HKs.out]; exact HQ6.out.cell 0
        have c1 : w6.cell? ⟨z, 1, none⟩ = some (.int .i64 rk.at_) := HQ6.out.cell 1
        have c2 : w6.cell? ⟨z, 2, none⟩ = some (.int .i64 rk.e) := HQ6.out.cell 2
        have f0 := HQ6.out.froz 0
        have f1 := HQ6.out.froz 1
        have f2 := HQ6.out.froz 2
        have HT6 : Hid (((w6.setCell ⟨z, 0, none⟩ (.string S)).setCell ⟨z, 1, none⟩ (.int .i64 Y.at_)).setCell ⟨z, 2, none⟩ (.int .i64 Y.e) = w6.setRow z (qcells Y)) := three_lit HQ6.out HS.out HK2.out.2.1
        have HQ7 : Hid (Rq (w6.setRow z (qcells Y)) z Y) := HQ6.out.put Y
        have HO7 : Hid (Rq (w6.setRow z (qcells Y)) (z + 1) ⟨[], 0, 0⟩) := HO6.out.aside (by omega)
        have HW7 : Hid ((w6.setRow z (qcells Y)).ownsRow z 3 1 v' (xs ++ [n]).length (icells (xs ++ [n]))) := own_row3 HW6.out HQ6.out
        have HB7 : Hid (Below z w (w6.setRow z (qcells Y))) := below_setRow HB6.out (Nat.le_refl _)
        go_wp2_with (at_builtin; refine Lib.wpList_append_run _ rfl _ _ 26 26 rfl _ _ rfl rfl _ w6 HR6.out ?_)
        rw [HT6.out]
        exact ⟨⟨k + 1, xs ++ [n], Y, by go_num, by omega, by simp; omega, HW7.out, HQ7.out, HO7.out, HB7.out, HF2.out, HK2.out⟩, by simp [Lib.intOf]; omega⟩
      · have hez : ((rk.e : Int) == 0) = false := by rw [beq_eq_false_iff_ne]; omega
        have hez2 : ((rk.e : Int) != 0) = true := by rw [bne_iff_ne]; omega
        have HD : Hid (rInts r m = (rk, [])) := by
          unfold Hid
          rw [HU.out, HF.out.bad h0, if_pos h0]
        clear h0
        have g0 := HO.out.froz 0
        have g1 := HO.out.froz 1
        have g2 := HO.out.froz 2
        have b0 : wr.cell? ⟨z + 1, 0, none⟩ = some (.string ⟨#[]⟩) := HO.out.cell 0
        have b1 : wr.cell? ⟨z + 1, 1, none⟩ = some (.int .i64 0) := HO.out.cell 1
        have b2 : wr.cell? ⟨z + 1, 2, none⟩ = some (.int .i64 0) := HO.out.cell 2
        have HT : Hid (((wr.setCell ⟨z + 1, 0, none⟩ (.string S)).setCell ⟨z + 1, 1, none⟩ (.int .i64 rk.at_)).setCell ⟨z + 1, 2, none⟩ (.int .i64 rk.e) = wr.setRow (z + 1) (qcells rk)) := three_lit HO.out HS.out HKs.out
        have HO9 : Hid (Rq (wr.setRow (z + 1) (qcells rk)) (z + 1) rk) := HO.out.put _
        have HB9 : Hid (Below z w (wr.setRow (z + 1) (qcells rk))) := below_setRow HB.out (by omega)
        go_wp2_with fail
        rw [HT.out]
        generalize wr.setRow (z + 1) (qcells rk) = w9 at *
        have d0 : w9.cell? ⟨z + 1, 0, none⟩ = some (.string ⟨rk.s.toArray⟩) := HO9.out.cell 0
        have d1 : w9.cell? ⟨z + 1, 1, none⟩ = some (.int .i64 rk.at_) := HO9.out.cell 1
        have d2 : w9.cell? ⟨z + 1, 2, none⟩ = some (.int .i64 rk.e) := HO9.out.cell 2
        refine bodyPost_ret (by simp [results, Try.results41, go_sem, d0, d1, d2]; try rfl) rfl ?_
        exact QI.mk (x := rk) (xs := []) (by rw [HD.out]) (World.ownsRow_nil _ _ _ _) (by rw [HD.out]) (by rw [HZ.out]; exact HB9.out)
    · have hkz : ¬ (k : Int) < (N : Int) := by omega
      have hkN : k = N := by omega
      subst hkN
      by_cases h0 : rk.e = 0
      · have hez2 : ((rk.e : Int) != 0) = false := by rw [h0]; rfl
        have HD : Hid (rInts r m = (rk, xs)) := by
          unfold Hid
          rw [HU.out, HF.out.end_, if_neg (by simpa using h0)]
        clear h0
        have HW9 : Hid ((wr.setRow (z + 1) (qcells rk)).ownsRow z 3 1 u7 xs.length (icells xs)) := own_row3 HW.out HO.out
        have g0 := HO.out.froz 0
        have g1 := HO.out.froz 1
        have g2 := HO.out.froz 2
        have b0 : wr.cell? ⟨z + 1, 0, none⟩ = some (.string ⟨#[]⟩) := HO.out.cell 0
        have b1 : wr.cell? ⟨z + 1, 1, none⟩ = some (.int .i64 0) := HO.out.cell 1
        have b2 : wr.cell? ⟨z + 1, 2, none⟩ = some (.int .i64 0) := HO.out.cell 2
        have HT : Hid (((wr.setCell ⟨z + 1, 0, none⟩ (.string S)).setCell ⟨z + 1, 1, none⟩ (.int .i64 rk.at_)).setCell ⟨z + 1, 2, none⟩ (.int .i64 rk.e) = wr.setRow (z + 1) (qcells rk)) := three_lit HO.out HS.out HKs.out
        have HO9 : Hid (Rq (wr.setRow (z + 1) (qcells rk)) (z + 1) rk) := HO.out.put _
        have HB9 : Hid (Below z w (wr.setRow (z + 1) (qcells rk))) := below_setRow HB.out (by omega)
        go_wp2_with fail
        rw [HT.out]
        generalize wr.setRow (z + 1) (qcells rk) = w9 at *
        have d0 : w9.cell? ⟨z + 1, 0, none⟩ = some (.string ⟨rk.s.toArray⟩) := HO9.out.cell 0
        have d1 : w9.cell? ⟨z + 1, 1, none⟩ = some (.int .i64 rk.at_) := HO9.out.cell 1
        have d2 : w9.cell? ⟨z + 1, 2, none⟩ = some (.int .i64 rk.e) := HO9.out.cell 2
        refine bodyPost_ret (by simp [results, Try.results41, go_sem, d0, d1, d2]; try rfl) rfl ?_
        exact QI.mk (x := rk) (xs := xs) (by rw [HD.out]) (by rw [HZ.out]; exact HW9.out) (by rw [HD.out]) (by rw [HZ.out]; exact HB9.out)
      · have hez2 : ((rk.e : Int) != 0) = true := by rw [bne_iff_ne]; omega
        have HD : Hid (rInts r m = (rk, [])) := by
          unfold Hid
          rw [HU.out, HF.out.end_, if_pos h0]
        clear h0
        have g0 := HO.out.froz 0
        have g1 := HO.out.froz 1
        have g2 := HO.out.froz 2
        have b0 : wr.cell? ⟨z + 1, 0, none⟩ = some (.string ⟨#[]⟩) := HO.out.cell 0
        have b1 : wr.cell? ⟨z + 1, 1, none⟩ = some (.int .i64 0) := HO.out.cell 1
        have b2 : wr.cell? ⟨z + 1, 2, none⟩ = some (.int .i64 0) := HO.out.cell 2
        have HT : Hid (((wr.setCell ⟨z + 1, 0, none⟩ (.string S)).setCell ⟨z + 1, 1, none⟩ (.int .i64 rk.at_)).setCell ⟨z + 1, 2, none⟩ (.int .i64 rk.e) = wr.setRow (z + 1) (qcells rk)) := three_lit HO.out HS.out HKs.out
        have HO9 : Hid (Rq (wr.setRow (z + 1) (qcells rk)) (z + 1) rk) := HO.out.put _
        have HB9 : Hid (Below z w (wr.setRow (z + 1) (qcells rk))) := below_setRow HB.out (by omega)
        go_wp2_with fail
        rw [HT.out]
        generalize wr.setRow (z + 1) (qcells rk) = w9 at *
        have d0 : w9.cell? ⟨z + 1, 0, none⟩ = some (.string ⟨rk.s.toArray⟩) := HO9.out.cell 0
        have d1 : w9.cell? ⟨z + 1, 1, none⟩ = some (.int .i64 rk.at_) := HO9.out.cell 1
        have d2 : w9.cell? ⟨z + 1, 2, none⟩ = some (.int .i64 rk.e) := HO9.out.cell 2
        refine bodyPost_ret (by simp [results, Try.results41, go_sem, d0, d1, d2]; try rfl) rfl ?_
        exact QI.mk (x := rk) (xs := []) (by rw [HD.out]) (World.ownsRow_nil _ _ _ _) (by rw [HD.out]) (by rw [HZ.out]; exact HB9.out)
end Go.Proofs.Ytgdoeflnfcjefaa
