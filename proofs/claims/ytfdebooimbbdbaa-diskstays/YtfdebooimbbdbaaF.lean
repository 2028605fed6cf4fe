/- New and Crash of a disk. -/
import Derived.Test.YtfdebooimbbdbaaE
import Derived.WalkKit
import Derived.ProofKit
import Derived.Handy
import Derived.WalkLawsBesides
import Derived.WalkSpells
import Derived.BigQuiet
import Derived.BigCall
import Derived.Deep.QuietTactic
import Derived.Deep.Light
import Derived.Deep.OwnRows
import Derived.Laws.AppendOwnNone
import Derived.Laws.Strings3
import Derived.Laws.RangeAny
import Derived.Deep.RegionWith
import Derived.Lib.BitFns
import Derived.Lib.Walk
import Derived.Lib.Strings
import Derived.Lib.OthersKept
import Derived.Deep.CutBlock
import Derived.Deep.DeepCutAuto
import Derived.Deep.LoopGhost
import Derived.Deep.RegionHeld3
import Derived.Lib.SmallJoins
import Derived.Maps.AppendAt
import Derived.Laws.IdiomStrings
import Derived.Lib.AppendZeros
namespace Go.Proofs.Ytfdebooimbbdbaa
open Go.RowKit
set_option linter.unusedVariables false
set_option linter.unusedSimpArgs false
theorem Fr.alloc {B p : Nat} {a w : World} (h : Fr B p a w) (hB : B ≤ w.heap.size) (o : Obj) : Fr B p a (w.alloc o) := ⟨h.1.alloc hB o, h.2.alloc o⟩
theorem xnew (B : Nat) (w : World) (hB : B ≤ w.heap.size) : Calls Try.prog 8 #[] w fun e w' => e = .returned (.pointer (some ⟨w.heap.size, 0, none⟩)) ∧ (∃ V, Dk B w' w.heap.size new V) ∧ Below w.heap.size w w' := by
  have HB : Hid (B ≤ w.heap.size) := hB
  clear hB
  go_enter Try.func8, Try.ntmps8
  go_wp2
  go_ret
  refine ⟨rfl, ⟨fun _ => .slice none 0 0, HB.out, heap_alloc_new w _, fun i _ => ⟨rfl, .inl ⟨rfl, rfl⟩⟩, fun i j _ _ _ => .inl rfl⟩, (Below.refl _ _).alloc (Nat.le_refl _) _⟩
/-- the first n files are as a crash leaves them -/
def crsTo (S : St) (K : Nat → Int) (n : Nat) : St := { f := fun j => if j < n then (crs S K).f j else S.f j, s := fun j => if j < n then (crs S K).s j else S.s j, lim := S.lim, gone := S.gone }
theorem crsTo_zero (S : St) (K : Nat → Int) : crsTo S K 0 = S := by simp [crsTo]
theorem crsTo_ok {S : St} (h : Ok S) (K : Nat → Int) (n : Nat) : Ok (crsTo S K n) := by
  have hc := crs_ok h K
  refine ⟨fun j => ?_, fun j => ?_, h.lo, h.hi⟩
  · show (if j < n then (crs S K).s j else S.s j) ≤ (if j < n then (crs S K).f j else S.f j).size
    by_cases c : j < n
    · rw [if_pos c, if_pos c]; exact hc.safe j
    · rw [if_neg c, if_neg c]; exact h.safe j
  · show (if j < n then (crs S K).f j else S.f j).size ≤ _
    by_cases c : j < n
    · rw [if_pos c]; exact hc.small j
    · rw [if_neg c]; exact h.small j
theorem crsTo_f (S : St) (K : Nat → Int) (n : Nat) : (crsTo S K n).f n = S.f n ∧ (crsTo S K n).s n = S.s n := by simp [crsTo]
def kcells (K : Nat → Int) : Array Value := #[.int .i64 (K 0), .int .i64 (K 1), .int .i64 (K 2), .int .i64 (K 3)]
/-- the next file -/
theorem crsTo_next {B p : Nat} {w : World} {S : St} {V : Nat → Value} (hok : Ok S) (K : Nat → Int) (n : Nat) (m : Nat) (hm : m = lft (S.f n).size (S.s n) (K n)) (x : Nat)
    (h : Dk B w p { crsTo S K n with f := put (crsTo S K n).f n (((crsTo S K n).f n).extract 0 m), s := put (put (crsTo S K n).s n x) n ((put (crsTo S K n).f n (((crsTo S K n).f n).extract 0 m)) n).size } V) : Dk B w p (crsTo S K (n + 1)) V := by
  have hl := lft_le (S.f n).size (S.s n) (K n) (hok.safe n)
  have e : ({ crsTo S K n with f := put (crsTo S K n).f n (((crsTo S K n).f n).extract 0 m), s := put (put (crsTo S K n).s n x) n ((put (crsTo S K n).f n (((crsTo S K n).f n).extract 0 m)) n).size } : St) = crsTo S K (n + 1) := by
    unfold crsTo
    simp only [St.mk.injEq, and_true]
    refine ⟨funext fun j => ?_, funext fun j => ?_⟩
    · by_cases c : j = n
      · subst c
        rw [put_eq]
        simp [crs, hm]
      · rw [put_ne _ _ _ _ c]
        by_cases d : j < n
        · rw [if_pos d, if_pos (by omega)]
        · rw [if_neg d, if_neg (by omega)]
    · by_cases c : j = n
      · subst c
        rw [put_eq, put_eq]
        simp only [Nat.lt_irrefl, if_false, Nat.lt_succ_self, if_true]
        rw [size_extract0 _ _ (by omega), hm]
        rfl
      · rw [put_ne _ _ _ _ c, put_ne _ _ _ _ c]
        by_cases d : j < n
        · rw [if_pos d, if_pos (by omega)]
        · rw [if_neg d, if_neg (by omega)]
  rw [e] at h
  exact h
theorem lft_int (n s : Nat) (k : Int) (h : s ≤ n) : (s : Int) + max 0 (min k ((n - s : Nat) : Int)) = (lft n s k : Int) := by unfold lft; omega
set_option maxHeartbeats 1000000 in
theorem xcrash (B p : Nat) (S : St) (V : Nat → Value) (w : World) (h : Dk B w p S V) (ok : Ok S) (K : Nat → Int) (hK : ∀ j, -9223372036854775808 ≤ K j ∧ K j ≤ 9223372036854775807) : Calls Try.prog 15 #[.pointer (some ⟨p, 0, none⟩), .agg (kcells K)] w fun e w' => e = .returned (.tuple #[]) ∧ ∃ V', Ch B p (crs S K) V' w w' := by
  have H : Hid (Dk B w p S V) := h
  have HO : Hid (Ok S) := ok
  have HK : Hid (∀ j, -9223372036854775808 ≤ K j ∧ K j ≤ 9223372036854775807) := hK
  clear h ok hK
  unfold kcells
  go_enter Try.func15, Try.ntmps15
  go_wp2_with fail
  refine (xlack B p S V _ (H.out.alloc _)).mono ?_
  rintro e w1 ⟨rfl, rfl⟩
  go_wp2_with fail
  show Code.wp _ _ _ _ (w.alloc (.cells (kcells K) 31))
  go_loopw [8] (fun i wr => ∃ (k : Nat) (V' : Nat → Value), k ≤ 4 ∧ i = .int .i64 k ∧ Hid (Dk B wr p (crsTo S K k) V') ∧ Hid (Fr B p w wr) ∧ Hid (wr.heap[w.heap.size]? = some (.cells (kcells K) 31 (0, 0)))) (fun i _ => 4 - (intOf i).toNat)
  case atStart => exact ⟨0, V, by omega, rfl, by rw [crsTo_zero]; exact H.out.alloc _, (Fr.refl _ _ _).alloc H.out.bw _, heap_alloc_new w _⟩
  case round =>
    obtain ⟨k, U, hk, rfl, HD, HF, HC⟩ := hrel
    by_cases hlt : k < 4
    · have hk4 : (k : Int) < 4 := by omega
      have hs : wr.cell? ⟨p, 3 + k * 2 + 1, none⟩ = some (.int .i64 (S.s k)) := by
        have := HD.out.cS hlt
        rw [(crsTo_f S K k).2] at this
        exact this
      have hc : wr.cell? ⟨w.heap.size, k, none⟩ = some (.int .i64 (K k)) := by
        rw [cell_of_row wr _ k _ 31 (0, 0) HC.out]
        rcases four hlt with rfl | rfl | rfl | rfl <;> rfl
      have hKk := HK.out k
      have HI : Hid ((S.s k : Int) + max 0 (min (K k) (((S.f k).size - S.s k : Nat) : Int)) = (lft (S.f k).size (S.s k) (K k) : Int)) := lft_int _ _ _ (HO.out.safe k)
      have hb1 := HO.out.safe k
      have hb2 := HO.out.small k
      have HL : Hid (∀ n, Calls Try.prog 27 #[.pointer (some ⟨p, 3 + k * 2, none⟩)] (wr.drewN n) fun e w' => e = .returned (.int .i64 ((S.f k).size - S.s k : Nat)) ∧ ∃ n', w' = (wr.drewN n).drewN n') := by
        intro n
        have := xlate B p (crsTo S K k) U (wr.drewN n) (HD.out.drewN n) (crsTo_ok HO.out K k) k hlt
        rw [(crsTo_f S K k).1, (crsTo_f S K k).2] at this
        exact this
      have HV : Hid (∀ w', Dk B w' p (crsTo S K k) U → Calls Try.prog 29 #[.pointer (some ⟨p, 3 + k * 2, none⟩), .int .i64 (lft (S.f k).size (S.s k) (K k) : Nat)] w' fun e w2 => e = .returned (.tuple #[]) ∧ ∃ v, Ch B p { crsTo S K k with f := put (crsTo S K k).f k (((crsTo S K k).f k).extract 0 (lft (S.f k).size (S.s k) (K k))), s := put (crsTo S K k).s k (min ((crsTo S K k).s k) (lft (S.f k).size (S.s k) (K k))) } (put U k v) w' w2) := by
        intro w' hd
        exact xcut B p (crsTo S K k) U w' hd (crsTo_ok HO.out K k) k _ hlt (by rw [(crsTo_f S K k).1]; exact (lft_le _ _ _ (HO.out.safe k)).2)
      have hi1 : (S.s k : Int) ≤ 1048576 := by omega
      have hi2 : (((S.f k).size - S.s k : Nat) : Int) ≤ 1048576 := by omega
      have hi3 : (0 : Int) ≤ max 0 (min (K k) (((S.f k).size - S.s k : Nat) : Int)) := by omega
      have hi4 : max 0 (min (K k) (((S.f k).size - S.s k : Nat) : Int)) ≤ 1048576 := by omega
      have HW : Hid (IntKind.i64.wrap ((S.s k : Int) + max 0 (min (K k) (((S.f k).size - S.s k : Nat) : Int))) = (lft (S.f k).size (S.s k) (K k) : Nat)) := by
        show _ = _
        refine (IntWalk.i64_in _ ⟨?_, ?_⟩).trans HI.out <;> omega
      have HNX : Hid (∀ (w2 : World) (U2 : Nat → Value) (x : Nat), Dk B w2 p { crsTo S K k with f := put (crsTo S K k).f k (((crsTo S K k).f k).extract 0 (lft (S.f k).size (S.s k) (K k))), s := put (put (crsTo S K k).s k x) k ((put (crsTo S K k).f k (((crsTo S K k).f k).extract 0 (lft (S.f k).size (S.s k) (K k)))) k).size } U2 → Dk B w2 p (crsTo S K (k + 1)) U2) := fun w2 U2 x hd => crsTo_next HO.out K k _ rfl x hd
      have HKP : Hid (∀ (n : Nat) (v : Value) (w2 : World), Ch B p { crsTo S K k with f := put (crsTo S K k).f k (((crsTo S K k).f k).extract 0 (lft (S.f k).size (S.s k) (K k))), s := put (crsTo S K k).s k (min ((crsTo S K k).s k) (lft (S.f k).size (S.s k) (K k))) } (put U k v) (wr.drewN n) w2 → w2.cell? ⟨p, 3 + k * 2 + 1, none⟩ = some (.int .i64 (S.s k)) ∧ w2.cell? ⟨w.heap.size, k, none⟩ = some (.int .i64 (K k))) := by
        intro n v w2 h2
        have hl := (lft_le _ _ (K k) (HO.out.safe k)).1
        refine ⟨?_, ?_⟩
        · rw [h2.1.cS hlt]
          simp only [put_eq, (crsTo_f S K k).2]
          rw [Nat.min_eq_left hl]
        · rw [cell_of_row w2 _ k _ 31 (0, 0) (h2.2.keep (show (wr.drewN n).heap[w.heap.size]? = _ from HC.out) (by decide) (by have := H.out.lt; omega))]
          rcases four hlt with rfl | rfl | rfl | rfl <;> rfl
      generalize lft (S.f k).size (S.s k) (K k) = L at *
      generalize hlz : (((S.f k).size - S.s k : Nat) : Int) = z at *
      generalize (S.s k) = sk at *
      generalize (K k) = kk at *
      clear hb1 hb2 hlz
      go_wp2_with fail
      go_region_held3 (fun w' => w'.cell? ⟨p, 3 + k * 2 + 1, none⟩ = some (.int .i64 sk) ∧ w'.cell? ⟨w.heap.size, k, none⟩ = some (.int .i64 kk)) (first | go_keep | exact HKP.out _ _ _ h2) (first | (go_at_call 27; go_must (refine (HL.out _).mono ?_; rintro e w1 ⟨rfl, n', rfl⟩)) | (go_at_call 29; go_must (rw [HW.out]; refine (HV.out _ (HD.out.drewN _)).mono ?_; rintro e w2 ⟨rfl, v2, h2⟩)))
      have H2 : Hid (Ch B p _ (put U k v2) (wr.drewN (1 + n')) w2) := h2
      have HF2 : Hid (Fr B p w w2) := (HF.out.drewN (1 + n')).trans h2.2
      have HC2 : Hid (w2.heap[w.heap.size]? = some (.cells (kcells K) 31 (0, 0))) := h2.2.keep (show (wr.drewN (1 + n')).heap[w.heap.size]? = _ from HC.out) (by decide) (by have := H.out.lt; omega)
      have HY : Hid (Calls Try.prog 30 #[.pointer (some ⟨p, 3 + k * 2, none⟩)] w2 fun e w' => e = .returned (.tuple #[]) ∧ Hid (Dk B w' p (crsTo S K (k + 1)) (put U k v2)) ∧ Hid (Fr B p w w') ∧ Hid (w'.heap[w.heap.size]? = some (.cells (kcells K) 31 (0, 0)))) := by
        refine (xsync B p _ (put U k v2) w2 h2.1 k hlt).mono ?_
        rintro e w3 ⟨rfl, h3⟩
        exact ⟨rfl, HNX.out _ _ _ h3.1, HF2.out.trans h3.2, h3.2.keep HC2.out (by decide) (by have := H.out.lt; omega)⟩
      clear h2 H2 HV HL HKP HI HW HNX HF2 HC2 hs hc hKk HD HF HC
      go_wp2_with fail
      refine HY.out.mono ?_
      rintro e w3 ⟨rfl, D3, F3, C3⟩
      go_wp2_with fail
      go_roundw
      case rel => exact ⟨k + 1, _, by omega, by go_num, D3, F3, C3⟩
      case measure => simp [intOf]; omega
    · obtain rfl : k = 4 := by omega
      clear hlt
      have hf1 := HD.out.froz 1
      have hc1 := HD.out.c1
      have hq := HD.out.setP false
      have hf2 : (wr.setCell ⟨p, 1, none⟩ (.bool true)).frozen? ⟨p, 2, none⟩ = false := hq.froz 2
      have hc2 : (wr.setCell ⟨p, 1, none⟩ (.bool true)).cell? ⟨p, 2, none⟩ = some (.int .i64 S.lim) := hq.c2
      have hr := hq.setL (-1)
      have HE : Hid (Dk B ((wr.setCell ⟨p, 1, none⟩ (.bool true)).setCell ⟨p, 2, none⟩ (.int .i64 (-1))) p (crs S K) U) := by
        refine ⟨hr.base, hr.blk, fun i hi => ?_, hr.apart⟩
        have := hr.own i hi
        simp only [crsTo, if_pos hi] at this
        exact this
      have HFE : Hid (Fr B p w ((wr.setCell ⟨p, 1, none⟩ (.bool true)).setCell ⟨p, 2, none⟩ (.int .i64 (-1)))) := (HF.out.trans (Fr.set HD.out.base _ _)).trans (Fr.set HD.out.base _ _)
      clear hq hr HD HF HC
      go_wp2
      go_end0
      exact ⟨rfl, U, HE.out, HFE.out⟩
end Go.Proofs.Ytfdebooimbbdbaa
