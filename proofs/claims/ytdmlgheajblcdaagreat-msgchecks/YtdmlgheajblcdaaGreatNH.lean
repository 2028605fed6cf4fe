/- Ints of the reader. -/
import Derived.Test.YtdmlgheajblcdaaGreatNG
import Derived.WalkKit
import Derived.ProofKit
import Derived.Handy
import Derived.WalkLawsBesides
import Derived.WalkSpells
import Derived.BigQuiet
import Derived.BigCall
import Derived.Deep.QuietTactic
import Derived.Deep.Light
import Derived.Deep.OwnRows
import Derived.Laws.AppendOwnNone
import Derived.Laws.Strings3
import Derived.Laws.RangeAny
import Derived.Deep.RegionWith
import Derived.Lib.BitFns
import Derived.Lib.Walk
import Derived.Lib.Strings
import Derived.Lib.OthersKept
import Derived.Deep.CutBlock
import Derived.Deep.DeepCutAuto
import Derived.Deep.LoopGhost
import Derived.Deep.RegionHeld3
import Derived.Lib.SmallJoins
import Derived.Maps.AppendAt
import Derived.Laws.IdiomStrings
import Derived.Lib.AppendZeros
import Derived.Deep.WholeRow
import Derived.Laws.BitsAllLaws
import Derived.Lib.ConvBytes
import Derived.Deep.RegionLaw
namespace Go.Proofs.YtdmlgheajblcdaaGreat
open Go.RowKit
set_option linter.unusedVariables false
set_option linter.unusedSimpArgs false
theorem Tryz.info3 : (Tryz.prog.info? 3).map (fun i => (i.zero, i.size, i.bytes)) = some (some (.int .i64 0), 1, 8) := by kernel_rfl
theorem Tryz.info5 : (Tryz.prog.info? 5).map (fun i => (i.zero, i.size, i.bytes)) = some (some (.int .u8 0), 1, 1) := by kernel_rfl
theorem info_parts {P : Program} {t : TypeId} {z : Value} {s b : Nat} (h : (P.info? t).map (fun i => (i.zero, i.size, i.bytes)) = some (some z, s, b)) : ∃ i, P.info? t = some i ∧ i.zero = some z ∧ i.size = s ∧ i.bytes = b := by
  obtain ⟨i, hi, he⟩ := Option.map_eq_some_iff.1 h
  simp only [Prod.mk.injEq] at he
  exact ⟨i, hi, he.1, he.2.1, he.2.2⟩
/-- numbers as cells -/
def icells (xs : List Int) : List Value := xs.map fun n => Value.int .i64 n
theorem icells_len (xs : List Int) : (icells xs).length = xs.length := List.length_map ..
theorem icells_app (xs ys : List Int) : icells (xs ++ ys) = icells xs ++ icells ys := List.map_append ..
theorem one_icells {xs : List Int} : ∀ u ∈ icells xs, u.oneCell' = true := by
  intro u hu
  simp only [icells, List.mem_map] at hu
  obtain ⟨c, _, rfl⟩ := hu
  rfl
/-- append of one number -/
theorem app_int {B : Nat} {w : World} {v : Value} {xs : List Int} (h : w.ownsRow B 3 1 v xs.length (icells xs)) (hB : B ≤ w.heap.size) (n : Int) (hl : xs.length ≤ 1099511627776) :
    ∃ v' w', (Builtin.append_ #[25, 25] 25 #[v, .slice (some ⟨w.heap.size, 0, none⟩) 1 1]).run Tryz.prog (w.alloc (.cells #[.int .i64 n] 3)) = .ok v' w' ∧ w'.ownsRow B 3 1 v' (xs ++ [n]).length (icells (xs ++ [n])) ∧ (w.alloc (.cells #[.int .i64 n] 3)).grownBy w' v.ownBlock := by
  obtain ⟨i0, hi, hz0, hz1, hz2⟩ := info_parts Tryz.info3
  obtain ⟨v', w', hr, ho, hgr, _, hat⟩ := run_append_own_at (P := Tryz.prog) (w := w.alloc (.cells #[.int .i64 n] 3)) B 25 25 3 i0 (.int .i64 0) 1 8 Tryz.underlying25 hi hz0 hz1 hz2 rfl (by decide) v _ _ (h.alloc _) ⟨w.heap.size, 0, none⟩ 1 1 [.int .i64 n] rfl (cell_one_new _ _ _) (one_icells (xs := [n])) (by unfold maxLen; omega) (by omega) (by simp; omega)
  refine ⟨v', w', hr, ?_, hgr⟩
  rw [icells_app, List.length_append]; exact ho
theorem own_bt {w w' : World} {B e size n q : Nat} {v : Value} {xs : List Value} (h : w.ownsRow B e size v n xs) (hq : q < B) (hb : Bt q w w') : w'.ownsRow B e size v n xs := by
  refine ⟨h.1, ?_⟩
  rcases h.2 with h2 | ⟨g, cap, cur, hv, hB, hg, hr⟩
  · exact .inl h2
  · exact .inr ⟨g, cap, cur, hv, hB, hb.other hg (by omega), hr⟩
theorem rIs_bad {r : Rd} (h : r.e ≠ 0) (n : Nat) : rIs n r = (r, []) := by
  cases n with
  | zero => rfl
  | succ n => unfold rIs; rw [if_pos h]
theorem rIs_step {r : Rd} (h : r.e = 0) (n : Nat) : rIs (n + 1) r = ((rIs n (rInt r).1).1, (rInt r).2 :: (rIs n (rInt r).1).2) := by
  show (if _ then _ else _) = _
  rw [if_neg (by simpa using h)]
theorem rCount_run {r : Rd} {m : Int} (h : (rCount r m).2 ≠ 0) : (rCount r m).1.e = 0 := by
  rw [rCount_nxt] at h ⊢
  by_cases hc : cE (nxt r) m = 0
  · rw [if_pos hc]
    have : (nxt r).1 = 0 := by
      unfold cE at hc
      apply Classical.byContradiction
      intro hn
      rw [if_pos hn] at hc
      exact hn hc
    show r.e = 0
    apply Classical.byContradiction
    intro hn
    rw [nxt_bad hn] at this
    exact hn this
  · rw [if_neg hc] at h
    exact absurd rfl h
theorem rInt_moves {r : Rd} (h0 : r.e = 0) (h1 : (rInt r).1.e = 0) : r.at_ + 1 ≤ (rInt r).1.at_ ∧ (rInt r).1.s = r.s := by
  change (rUint r).1.e = 0 at h1
  show r.at_ + 1 ≤ (rUint r).1.at_ ∧ (rUint r).1.s = r.s
  unfold rUint at h1 ⊢
  rw [if_neg (by simpa using h0)] at h1 ⊢
  by_cases hr : (rdU (r.s.drop r.at_)).1 = 0
  · have hk := rdU_ok (s := r.s.drop r.at_) (m := (rdU (r.s.drop r.at_)).2.1) (j := (rdU (r.s.drop r.at_)).2.2) (by rw [← hr])
    rw [if_pos hr]
    exact ⟨by show _ ≤ r.at_ + _; omega, rfl⟩
  · rw [if_neg hr] at h1
    exact absurd h1 hr
/-- numbers so far -/
def Far (N : Nat) (rc : Rd) (k : Nat) (rk : Rd) (xs : List Int) : Prop := rIs N rc = ((rIs (N - k) rk).1, xs ++ (rIs (N - k) rk).2)
theorem Far.step {N : Nat} {rc rk : Rd} {k : Nat} {xs : List Int} (h : Far N rc k rk xs) (hk : k < N) (h0 : rk.e = 0) : Far N rc (k + 1) (rInt rk).1 (xs ++ [(rInt rk).2]) := by
  unfold Far at h ⊢
  rw [h, show N - k = N - (k + 1) + 1 by omega, rIs_step h0]
  simp
theorem Far.end_ {N : Nat} {rc rk : Rd} {xs : List Int} (h : Far N rc N rk xs) : rIs N rc = (rk, xs) := by
  unfold Far at h
  rw [h, Nat.sub_self]
  show (rk, xs ++ []) = _
  rw [List.append_nil]
theorem Far.bad {N : Nat} {rc rk : Rd} {k : Nat} {xs : List Int} (h : Far N rc k rk xs) (h0 : rk.e ≠ 0) : (rIs N rc).1 = rk := by
  unfold Far at h
  rw [h, rIs_bad h0]
/-- what Ints hands back -/
def IsP (q : Nat) (l : List Int) (r : Rd) (w : World) (e : Ending) (w' : World) : Prop := ∃ v xs, e = .returned v ∧ Hid (w'.ownsRow w.heap.size 3 1 v xs.length (icells xs)) ∧ Hid (xs = l) ∧ Hid (Rm w' q r) ∧ Hid (Bt q w w')
theorem IsP.mk {q : Nat} {l : List Int} {r : Rd} {w w' : World} {v : Value} {xs : List Int} (h : w'.ownsRow w.heap.size 3 1 v xs.length (icells xs)) (hx : xs = l) (hr : Rm w' q r) (hb : Bt q w w') : IsP q l r w (.returned v) w' := ⟨v, xs, rfl, h, hx, hr, hb⟩
set_option maxHeartbeats 4000000 in
theorem xints (q : Nat) (r : Rd) (m : Int) (hm : I64 m) (w : World) (h : Rm w q r) (hs : r.s.length ≤ 1099511627776) : Calls Tryz.prog 111 #[.pointer (some ⟨q, 0, none⟩), .int .i64 m] w (IsP q (rInts r m).2 (rInts r m).1 w) := by
  have HX : Hid (Calls Tryz.prog 112 #[.pointer (some ⟨q, 0, none⟩), .int .i64 m] w (RP q (.int .i64 (rCount r m).2) (rCount r m).1 w)) := xcount q r m hm w h
  have HI : Hid (∀ rk w1, Rm w1 q rk → Calls Tryz.prog 57 #[.pointer (some ⟨q, 0, none⟩)] w1 (RP q (.int .i64 (rInt rk).2) (rInt rk).1 w1)) := fun rk w1 h => xint q rk w1 h
  have HE : Hid (∀ rk w1, Rm w1 q rk → Calls Tryz.prog 58 #[.pointer (some ⟨q, 0, none⟩)] w1 (NP .i64 rk.e w1)) := fun rk w1 h => xerr q rk w1 h
  have HU : Hid (rInts r m = if (rIs (rCount r m).2 (rCount r m).1).1.e ≠ 0 then ((rIs (rCount r m).2 (rCount r m).1).1, []) else rIs (rCount r m).2 (rCount r m).1) := rfl
  have HN0 : Hid ((rCount r m).2 ≠ 0 → (rCount r m).1.e = 0) := rCount_run
  have HS : Hid ((rCount r m).1.s = r.s) := (rCount_ok (show r.Ok from h.le) m).2
  have hqs : q < w.heap.size := h.lt
  have hN : ((rCount r m).2 : Int) ≤ 9223372036854775807 := by
    have := hm.2
    rw [rCount_nxt]
    split
    · next hc =>
      show ((nxt r).2.1 : Int) ≤ _
      unfold cE at hc
      split at hc
      · exact absurd hc ‹_›
      · split at hc
        · omega
        · omega
    · show ((0 : Nat) : Int) ≤ _; omega
  clear h hm
  generalize (rCount r m).2 = N at *
  generalize (rCount r m).1 = rc at *
  go_enter Tryz.func111, Tryz.ntmps111
  go_wp2_with fail
  refine HX.out.mono ?_
  rintro e w1 ⟨rfl, HR1, HB1⟩
  clear HX
  go_wp2_with fail
  go_loopw [5, 10] (fun v i wr => ∃ (k : Nat) (xs : List Int) (rk : Rd), i = .int .i64 k ∧ k ≤ N ∧ xs.length = k ∧ Hid (wr.ownsRow w.heap.size 3 1 v xs.length (icells xs)) ∧ Hid (Rm wr q rk) ∧ Hid (Bt q w wr) ∧ Hid (Far N rc k rk xs) ∧ Hid (k ≤ rk.at_ ∧ rk.s = r.s ∧ (N ≠ 0 → rk.e = 0))) (fun _ i _ => N - (Lib.intOf i).toNat)
  case atStart => exact ⟨0, [], rc, rfl, Nat.zero_le _, rfl, World.ownsRow_nil _ _ _ _, HR1, HB1, by unfold Hid Far; simp, ⟨Nat.zero_le _, HS.out, HN0.out⟩⟩
  case round =>
    obtain ⟨k, xs, rk, rfl, hk, hxk, HO, HR, HB, HF, HK⟩ := hrel
    by_cases hkn : k < N
    · have hkz : (k : Int) < (N : Int) := by omega
      have h0 : rk.e = 0 := HK.out.2.2 (by omega)
      have HM : Hid ((rInt rk).1.e = 0 → rk.at_ + 1 ≤ (rInt rk).1.at_ ∧ (rInt rk).1.s = rk.s) := fun h1 => rInt_moves h0 h1
      have HF2 : Hid (Far N rc (k + 1) (rInt rk).1 (xs ++ [(rInt rk).2])) := HF.out.step hkn h0
      have HIk := HI.out rk wr HR.out
      have HIk2 : Hid (Calls Tryz.prog 57 #[.pointer (some ⟨q, 0, none⟩)] wr (RP q (.int .i64 (rInt rk).2) (rInt rk).1 wr)) := HIk
      have hkl : k ≤ 1099511627776 := by
        have h1 := HK.out.1
        have h2 := HR.out.le
        rw [HK.out.2.1] at h2
        omega
      clear HIk h0
      generalize (rInt rk).2 = n at *
      generalize (rInt rk).1 = r2 at *
      go_wp2_with fail
      refine HIk2.out.mono ?_
      rintro e w2 ⟨rfl, HR2, HB2⟩
      have HO2 : Hid (w2.ownsRow w.heap.size 3 1 u5 xs.length (icells xs)) := own_bt HO.out hqs HB2.out
      have HB3 : Hid (Bt q w w2) := HB.out.trans HB2.out
      have HE2 : Hid (Calls Tryz.prog 58 #[.pointer (some ⟨q, 0, none⟩)] w2 (NP .i64 r2.e w2)) := HE.out r2 w2 HR2.out
      clear HB2 HIk2
      by_cases hr : r2.e = 0
      · have hrz : ((r2.e : Int) != 0) = false := by rw [hr]; rfl
        obtain ⟨v', w4, hr4, ho4, hg4⟩ := app_int HO2.out HB3.out.size n (by omega)
        have HR4 : Hid _ := hr4
        have HO4 : Hid (w4.ownsRow w.heap.size 3 1 v' (xs ++ [n]).length (icells (xs ++ [n]))) := ho4
        have hbw : Below w.heap.size w2 w4 := ((Below.refl w.heap.size w2).alloc HB3.out.size _).grown hg4 (by have := HB3.out.size; simp; omega) (fun j hj => (HO2.out.lt j hj).1)
        have HRm4 : Hid (Rm w4 q r2) := HR2.out.same (hbw.block q hqs)
        have HB4 : Hid (Bt q w w4) := ⟨hbw.os.trans HB3.out.os, hbw.tape.trans HB3.out.tape, hbw.output.trans HB3.out.output, Nat.le_trans HB3.out.size hbw.size, fun i hi hn => (hbw.block i hi).trans (HB3.out.block i hi hn)⟩
        have HK2 : Hid (k + 1 ≤ r2.at_ ∧ r2.s = r.s ∧ (N ≠ 0 → r2.e = 0)) := ⟨by have h1 := (HM.out hr).1; have h2 := HK.out.1; omega, by rw [(HM.out hr).2]; exact HK.out.2.1, fun _ => hr⟩
        clear hr4 ho4 hg4 hbw HM HK HF HO HR HB HO2
        go_wp2_with fail
        refine HE2.out.mono ?_
        rintro e w5 ⟨rfl, rfl⟩
        go_wp2_with (at_builtin; refine Lib.wpList_append_run _ rfl _ _ 25 25 rfl _ _ rfl rfl _ w4 HR4.out ?_)
        exact ⟨⟨k + 1, xs ++ [n], r2, by go_num, by omega, by simp; omega, HO4.out, HRm4.out, HB4.out, HF2.out, HK2.out⟩, by simp [Lib.intOf]; omega⟩
      · have hrz : ((r2.e : Int) != 0) = true := by rw [bne_iff_ne]; omega
        have HD : Hid (rInts r m = (r2, [])) := by
          unfold Hid
          rw [HU.out, HF2.out.bad hr, if_pos hr]
        go_wp2_with fail
        refine HE2.out.mono ?_
        rintro e w5 ⟨rfl, rfl⟩
        go_wp2_with fail
        go_ret
        exact IsP.mk (xs := []) (World.ownsRow_nil _ _ _ _) (by rw [HD.out]) (by rw [HD.out]; exact HR2.out) HB3.out
    · have hkz : ¬ (k : Int) < (N : Int) := by omega
      have hkN : k = N := by omega
      subst hkN
      have HD : Hid ((rInts r m).2 = xs ∧ (rInts r m).1 = rk) := by
        unfold Hid
        rw [HU.out, HF.out.end_]
        by_cases hr : rk.e = 0
        · rw [if_neg (by simpa using hr)]; exact ⟨rfl, rfl⟩
        · rw [if_pos hr]
          refine ⟨?_, rfl⟩
          have : k = 0 := Classical.byContradiction fun hn => hr (HK.out.2.2 hn)
          rw [this] at hxk
          exact (List.length_eq_zero_iff.1 hxk).symm
      go_wp2_with fail
      go_ret
      exact IsP.mk HO.out HD.out.1.symm (by rw [HD.out.2]; exact HR.out) HB.out
end Go.Proofs.YtdmlgheajblcdaaGreat
