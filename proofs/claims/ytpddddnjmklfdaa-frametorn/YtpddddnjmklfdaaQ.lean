/- The law FrameTorn. -/
import Derived.Test.YtpddddnjmklfdaaO
import Derived.WalkKit
import Derived.ProofKit
import Derived.Handy
import Derived.WalkLawsBesides
import Derived.WalkSpells
import Derived.BigQuiet
import Derived.BigCall
import Derived.Deep.QuietTactic
import Derived.Deep.Light
import Derived.Deep.OwnRows
import Derived.Laws.AppendOwnNone
import Derived.Laws.Strings3
import Derived.Laws.RangeAny
import Derived.Deep.RegionWith
import Derived.Lib.BitFns
import Derived.Lib.Walk
import Derived.Lib.Strings
import Derived.Lib.OthersKept
import Derived.Deep.CutBlock
import Derived.Deep.DeepCutAuto
import Derived.Deep.LoopGhost
import Derived.Deep.RegionHeld3
import Derived.Lib.SmallJoins
import Derived.Maps.AppendAt
import Derived.Laws.IdiomStrings
import Derived.Lib.AppendZeros
import Derived.Deep.WholeRow
import Derived.Laws.BitsAllLaws
namespace Go.Proofs.Ytpddddnjmklfdaa
open Go.RowKit
set_option linter.unusedVariables false
set_option linter.unusedSimpArgs false
theorem Strs.take {w : World} {a : Option Addr} {l : List ByteArray} (h : Strs w a l) (n : Nat) : Strs w a (l.take n) := by
  refine ⟨fun h0 => ?_, by rw [List.length_take]; have := h.len; omega, fun s hs => h.size s (List.mem_of_mem_take hs)⟩
  obtain ⟨b, off, e, hl, hc⟩ := h.at_ (by rw [List.length_take] at h0; omega)
  refine ⟨b, off, e, hl, fun j hj => ?_⟩
  rw [List.length_take] at hj
  rw [List.getElem_take]
  exact hc j (by omega)
theorem ls_tk (l : List ByteArray) (n : Nat) : (ls l).take n = ls (l.take n) := List.map_take.symm
set_option maxHeartbeats 4000000 in
theorem ltorn (l : List ByteArray) (a : Option Addr) (cap c : Nat) (hc : c < 18446744073709551616) (hcap : l.length ≤ cap) (hcm : cap ≤ 9223372036854775807) (w : World) (h : Strs w a l) : Calls Try.prog 6 #[.slice a l.length cap, .int .u64 c] w fun e w' => e = .returned (.bool true) ∧ Below w.heap.size w w' := by
  have HS : Hid (Strs w a l) := h
  have HW : Hid (∀ w, Calls Try.prog 9 #[] w (BB true w)) := fun w => xawake w
  have H8 : Hid (Calls Try.prog 8 #[.slice a l.length cap] w (SmP l w)) := rsmall l a cap w HS.out
  clear h
  go_enter Try.func6, Try.ntmps6
  go_wp2_with fail
  refine H8.out.mono ?_
  rintro e w1 ⟨g, rfl, rfl, hg⟩
  have HG : Hid (g = true → l.length ≤ 100 ∧ tot l ≤ 20000) := hg
  clear hg H8
  cases g with
  | false =>
    go_wp2_with fail
    refine (HW.out _).mono ?_
    rintro e w2 ⟨rfl, hb2⟩
    have HB2 : Hid (Below w.heap.size w w2) := hb2
    clear hb2
    go_wp2_with fail
    go_ret
    exact ⟨rfl, HB2.out⟩
  | true =>
    have HC := HG.out rfl
    have H13 : Hid (∀ w', Below w.heap.size w w' → Calls Try.prog 13 #[.slice a l.length cap] w' (MB (allL (ls l)) (allE (ls l)) w')) := fun w' hb => rall l a cap w' (HS.out.below hb) HC.1 HC.2
    by_cases hok : allOk (ls l) = true
    · have hfl := flat_len l
      rw [allL_yes hok, allE_yes hok] at H13
      have hsz : (flat (ls l)).length ≤ 22000 := by omega
      obtain ⟨S, hS⟩ : ∃ S : ByteArray, S = ⟨(flat (ls l)).toArray⟩ := ⟨_, rfl⟩
      have hSl : S.data.toList = flat (ls l) := by rw [hS]
      have hSs : S.size ≤ 22000 := by rw [hS, ba_size]; exact hsz
      have hSs2 : (flat (ls l)).length = S.size := by rw [hS, ba_size]
      obtain ⟨k, hk⟩ : ∃ k, c % (S.size + 1) = k := ⟨_, rfl⟩
      have hks : k ≤ S.size := by have := Nat.mod_lt c (show 0 < S.size + 1 by omega); omega
      have hkz : (c : Int) % ((S.size : Int) + 1) = (k : Int) := by rw [← hk]; simp
      have hr := rdA_torn (ls l) hok k (by omega)
      have H19 : Hid (∀ w, Calls Try.prog 19 #[.string (S.extract 0 k)] w (RP (S.extract 0 k).data.toList w)) := fun w => xread (S.extract 0 k) (by rw [ext_len S 0 k hks]; omega) w
      rw [ext_list, List.drop_zero, Nat.sub_zero, hSl] at H19
      unfold RP at H19
      rw [hr, ls_tk] at H19
      obtain ⟨N, E, hNE⟩ : ∃ N E, whole (ls l) k = (N, E) := ⟨_, _, rfl⟩
      rw [hNE] at H19
      have HNE : Hid (whole (ls l) k = (N, E)) := hNE
      obtain ⟨F, hF⟩ : ∃ F : Nat, (if E = k then 0 else 14) = F := ⟨_, rfl⟩
      simp only at H19
      rw [hF] at H19
      have HF : Hid ((E = k ∧ F = 0) ∨ (E ≠ k ∧ F = 14)) := by
        by_cases hEk : E = k
        · rw [if_pos hEk] at hF
          exact .inl ⟨hEk, hF.symm⟩
        · rw [if_neg hEk] at hF
          exact .inr ⟨hEk, hF.symm⟩
      clear hF hNE
      unfold MB at H13
      rw [← hS] at H13
      have h0 : Hid (((0 : Nat) : Int) = 0) := rfl
      rw [h0.out] at H13
      have hl100 : l.length ≤ 100 := HC.1
      have HT20 : Hid (tot l ≤ 20000) := HC.2
      clear hS hSl hSs2 hr hfl hsz hok HG HC h0 hk
      go_wp2_with fail
      refine (H13.out _ (Below.refl _ _)).mono ?_
      rintro e w2 ⟨rfl, hb2⟩
      have HB2 : Hid (Below w.heap.size w w2) := hb2
      clear hb2
      go_wp2_with fail
      refine (H19.out _).mono ?_
      rintro e w4 ⟨xs, a4, c4, rfl, hl4, hs4, hb4⟩
      have HB4 : Hid (Below w.heap.size w w4) := HB2.out.trans (hb4.mono HB2.out.size)
      obtain rfl : xs = l.take N := ls_inj hl4
      have HT : Hid (∀ (w6 : World), w4 = w6 → Calls Try.prog 21 #[.slice a4 (l.take N).length c4, .slice a (l.take N).length cap] w6 (BB true w6)) := fun w6 e => by subst e; exact rtexts (l.take N) a4 a c4 cap w4 hs4 ((HS.out.below HB4.out).take N)
      have HS4 : Hid (Strs w4 a l) := HS.out.below HB4.out
      clear hb4 hs4 hl4 HS HB2 H13 H19 hkz
      generalize hM : (l.take N).length = M at *
      have HM : Hid (N ≤ l.length → M = N) := fun h => by rw [← hM, List.length_take]; omega
      clear hM
      go_wp2_with fail
      go_loopw [11, 12] (fun v i wr => ∃ (j e : Nat), v = .int .i64 j ∧ i = .int .i64 e ∧ j ≤ l.length ∧ e ≤ k ∧ w4 = wr ∧ Hid (Wh l k j e)) (fun v _ _ => l.length - (Lib.intOf v).toNat)
      case atStart => exact ⟨0, 0, rfl, rfl, Nat.zero_le _, Nat.zero_le _, by first | rfl | trivial, Wh.start l k⟩
      case round =>
        obtain ⟨j, e, rfl, rfl, hj, he, rfl, HH⟩ := hrel
        have Hend : Hid (whole (ls l) k = (j, e) → N = j ∧ E = e) := fun h => by
          have := HNE.out
          rw [h] at this
          injection this with h1 h2
          exact ⟨h1.symm, h2.symm⟩
        by_cases hjn : j < l.length
        · have hjz : (j : Int) < (l.length : Int) := by omega
          obtain ⟨b, off, rfl, hbl, hce⟩ := HS4.out.at_ (by omega)
          have hcj := hce j hjn
          have hsz := HS4.out.size _ (List.getElem_mem hjn)
          by_cases hf : e + l[j].size + 12 ≤ k
          · have hN := HH.out.next hjn hf
            generalize l[j] = x at *
            have HN : Hid (Wh l k (j + 1) (e + x.size + 12)) := hN
            have hfz : (e : Int) + (x.size : Int) + 12 ≤ (k : Int) := by omega
            clear hN hce HH
            go_wp2_with fail
            exact ⟨⟨j + 1, e + x.size + 12, by go_num, by go_num, by omega, by omega, by first | rfl | trivial, HN.out⟩, by simp [Lib.intOf]; omega⟩
          · have hst := Hend.out (HH.out.stop hjn hf)
            generalize l[j] = x at *
            have hfz : ¬ (e : Int) + (x.size : Int) + 12 ≤ (k : Int) := by omega
            obtain ⟨rfl, rfl⟩ := hst
            obtain rfl := HM.out hj
            clear hce HH Hend HM HNE
            have hEE : ((E : Int) == (E : Int)) = true := by simp
            go_wp2_with fail
            refine (HT.out _ rfl).mono ?_
            rintro e6 w6 ⟨rfl, hb6⟩
            have HB6 : Hid (Below w.heap.size w w6) := HB4.out.trans (hb6.mono HB4.out.size)
            clear hb6
            rcases HF.out with ⟨rfl, rfl⟩ | ⟨hEk, rfl⟩
            · clear HF
              go_wp2_with fail
              refine (HW.out _).mono ?_
              rintro e7 w7 ⟨rfl, hb7⟩
              have HB7 : Hid (Below w.heap.size w w7) := HB6.out.trans (hb7.mono HB6.out.size)
              clear hb7
              go_wp2_with fail
              go_ret
              exact ⟨rfl, HB7.out⟩
            · have hEb : ((E : Int) == (k : Int)) = false := by rw [beq_eq_false_iff_ne]; omega
              clear HF hEk
              go_wp2_with fail
              refine (HW.out _).mono ?_
              rintro e7 w7 ⟨rfl, hb7⟩
              have HB7 : Hid (Below w.heap.size w w7) := HB6.out.trans (hb7.mono HB6.out.size)
              clear hb7
              go_wp2_with fail
              go_ret
              exact ⟨rfl, HB7.out⟩
        · have hjz : ¬ (j : Int) < (l.length : Int) := by omega
          obtain ⟨rfl, rfl⟩ := Hend.out (HH.out.end_ (by omega))
          obtain rfl := HM.out hj
          obtain rfl : M = l.length := by omega
          clear HH Hend HM HNE
          have hEE : ((E : Int) == (E : Int)) = true := by simp
          go_wp2_with fail
          refine (HT.out _ rfl).mono ?_
          rintro e6 w6 ⟨rfl, hb6⟩
          have HB6 : Hid (Below w.heap.size w w6) := HB4.out.trans (hb6.mono HB4.out.size)
          clear hb6
          rcases HF.out with ⟨rfl, rfl⟩ | ⟨hEk, rfl⟩
          · clear HF
            go_wp2_with fail
            refine (HW.out _).mono ?_
            rintro e7 w7 ⟨rfl, hb7⟩
            have HB7 : Hid (Below w.heap.size w w7) := HB6.out.trans (hb7.mono HB6.out.size)
            clear hb7
            go_wp2_with fail
            go_ret
            exact ⟨rfl, HB7.out⟩
          · have hEb : ((E : Int) == (k : Int)) = false := by rw [beq_eq_false_iff_ne]; omega
            clear HF hEk
            go_wp2_with fail
            refine (HW.out _).mono ?_
            rintro e7 w7 ⟨rfl, hb7⟩
            have HB7 : Hid (Below w.heap.size w w7) := HB6.out.trans (hb7.mono HB6.out.size)
            clear hb7
            go_wp2_with fail
            go_ret
            exact ⟨rfl, HB7.out⟩
    · have hno : allOk (ls l) = false := by simpa using hok
      rw [allL_no hno, allE_no hno] at H13
      clear hok hno HG HC
      go_wp2_with fail
      refine (H13.out _ (Below.refl _ _)).mono ?_
      rintro e w2 ⟨rfl, hb2⟩
      have HB2 : Hid (Below w.heap.size w w2) := hb2
      clear hb2
      go_wp2_with fail
      refine (HW.out _).mono ?_
      rintro e w7 ⟨rfl, hb7⟩
      have HB7 : Hid (Below w.heap.size w w7) := HB2.out.trans (hb7.mono HB2.out.size)
      clear hb7
      go_wp2_with fail
      go_ret
      exact ⟨rfl, HB7.out⟩
end Go.Proofs.Ytpddddnjmklfdaa
