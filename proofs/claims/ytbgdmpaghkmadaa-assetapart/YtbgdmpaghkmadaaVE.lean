/- The program's Digit and Check. Condition: none. -/
import Derived.Test.YtbgdmpaghkmadaaVD
import Derived.WalkKit
import Derived.ProofKit
import Derived.Handy
import Derived.WalkLawsBesides
import Derived.WalkSpells
import Derived.BigQuiet
import Derived.BigCall
import Derived.Deep.QuietTactic
import Derived.Deep.Light
import Derived.Deep.OwnRows
import Derived.Laws.AppendOwnNone
import Derived.Laws.Strings3
import Derived.Laws.RangeAny
import Derived.Deep.RegionWith
import Derived.Lib.BitFns
import Derived.Lib.Walk
import Derived.Lib.Strings
import Derived.Lib.OthersKept
import Derived.Deep.CutBlock
import Derived.Deep.DeepCutAuto
import Derived.Deep.LoopGhost
import Derived.Deep.RegionHeld3
import Derived.Lib.SmallJoins
import Derived.Maps.AppendAt
import Derived.Laws.IdiomStrings
import Derived.Lib.AppendZeros
import Derived.Deep.WholeRow
import Derived.Laws.BitsAllLaws
import Derived.Lib.ConvBytes
import Derived.Deep.RegionLaw
namespace Go.Proofs.Ytbgdmpaghkmadaa.N5
open Go.RowKit
set_option linter.unusedVariables false
set_option linter.unusedSimpArgs false
def DP (a e : Nat) (w : World) (r : Ending) (w' : World) : Prop := r = .returned (.tuple #[.int .u8 a, .int .i64 e]) ∧ w = w'
theorem DP.mk {a e : Nat} {x y : Int} {w : World} (h : x = a) (h2 : y = e) : DP a e w (.returned (.tuple #[.int .u8 x, .int .i64 y])) w := ⟨by rw [h, h2], rfl⟩
def dgA (l : List UInt8) : Nat := if head l = true then 48 + dgN l else 0
def dgE (l : List UInt8) : Nat := if head l = true then 0 else 11
set_option maxHeartbeats 4000000 in
theorem xDigit (s : ByteArray) (hs : s.size ≤ 9223372036854775807) (w : World) : Calls Try.prog 78 #[.string s] w (DP (dgA s.data.toList) (dgE s.data.toList) w) := by
  by_cases h : head s.data.toList = true
  · have HA : Hid (dgA s.data.toList = 48 + dgN s.data.toList) := if_pos h
    have HE : Hid (dgE s.data.toList = 0) := if_pos h
    have HH : Hid (head s.data.toList = true) := h
    have h11 : s.size = 11 := head_len h
    have HS : Hid (∀ w, Calls Try.prog 85 #[.string s] w (NP .i64 (tot s.data.toList) w)) := fun w => xsum s h11 (head_an h) w
    have ht : tot s.data.toList ≤ 198 := by
      have h1 := sm_le true (ds s.data.toList).reverse (fun d hd => ds_le (head_an h) d (List.mem_reverse.1 hd))
      have h2 := ds_len s.data.toList
      have h3 : s.data.toList.length = 11 := h11
      unfold tot
      rw [List.length_reverse] at h1
      omega
    have HD : Hid (dgN s.data.toList = (10 - tot s.data.toList % 10) % 10) := rfl
    clear h h11
    generalize tot s.data.toList = t at *
    go_enter Try.func78, Try.ntmps78
    go_wp2_with fail
    refine (calls_t (xhead s hs _) HH.out).mono ?_
    rintro e w1 ⟨rfl, rfl⟩
    go_wp2_with fail
    refine (HS.out _).mono ?_
    rintro e w1 ⟨rfl, rfl⟩
    go_wp2_with fail
    go_ret2
    refine DP.mk ?_ ?_
    · rw [HA.out, HD.out]
      omega
    · rw [HE.out]
      rfl
  · have HA : Hid (dgA s.data.toList = 0) := if_neg h
    have HE : Hid (dgE s.data.toList = 11) := if_neg h
    have HH : Hid (¬ head s.data.toList = true) := h
    clear h
    go_enter Try.func78, Try.ntmps78
    go_wp2_with fail
    refine (calls_f (xhead s hs _) HH.out).mono ?_
    rintro e w1 ⟨rfl, rfl⟩
    go_wp2_with fail
    go_ret2
    exact DP.mk (by rw [HA.out]; rfl) (by rw [HE.out]; rfl)
theorem ext_take (s : ByteArray) (e : Nat) : (s.extract 0 e).data.toList = s.data.toList.take e := by
  simp [ByteArray.data_extract]
theorem ext_size (s : ByteArray) (e : Nat) : (s.extract 0 e).size ≤ s.size := by
  simp [ByteArray.size_extract]
  omega
set_option maxHeartbeats 4000000 in
theorem xCheck (s : ByteArray) (hs : s.size ≤ 9223372036854775807) (w : World) : Calls Try.prog 65 #[.string s] w (NP .i64 (chk s.data.toList) w) := by
  by_cases h12 : s.size = 12
  · have hne : (((s.size : Nat) : Int) != 12) = false := by rw [h12]; rfl
    have h12z : (12 : Int) ≤ (s.size : Int) := by omega
    have h11n : 11 < s.size := by omega
    have hx : s.data.toList.getD 11 0 = s[11] := at_data h11n
    have hl12 : s.data.toList.length = 12 := h12
    have HF := @full_last s.data.toList hl12
    have HSH : Hid (shp s.data.toList = (decide (Dg (s.data.toList.getD 11 0).toNat) && head (s.data.toList.take 11))) := by
      unfold Hid shp
      rw [decide_eq_true hl12, Bool.true_and]
    rw [hx] at HF
    rw [hx] at HSH
    obtain ⟨x, hx2⟩ : ∃ x : UInt8, s[11] = x := ⟨_, rfl⟩
    rw [hx2] at HF HSH
    have hxl := x.toNat_lt
    have HFH : Hid (Dg x.toNat → (full s.data.toList % 10 = 0 ↔ x.toNat = 48 + dgN (s.data.toList.take 11))) := HF
    have HC : Hid (∀ w, Calls Try.prog 78 #[.string (s.extract 0 11)] w (DP (dgA (s.data.toList.take 11)) (dgE (s.data.toList.take 11)) w)) := fun w => by
      have := xDigit (s.extract 0 11) (Nat.le_trans (ext_size s 11) hs) w
      rw [ext_take] at this
      exact this
    clear HF hx h12 hl12
    by_cases hg : Dg x.toNat
    · have HG : Hid (Dg x.toNat) := hg
      clear hg
      by_cases hh : head (s.data.toList.take 11) = true
      · have HD := dgN_lt (s.data.toList.take 11)
        have hA : dgA (s.data.toList.take 11) = 48 + dgN (s.data.toList.take 11) := if_pos hh
        have hE : dgE (s.data.toList.take 11) = 0 := if_pos hh
        have HS : Hid (shp s.data.toList = true) := by
          unfold Hid
          rw [HSH.out, decide_eq_true HG.out, hh]
          rfl
        rw [hA, hE] at HC
        clear hh hA hE HSH
        generalize dgN (s.data.toList.take 11) = d at *
        by_cases hd : x.toNat = 48 + d
        · have hc : Hid (chk s.data.toList = 0) := by
            unfold Hid chk
            rw [if_pos HS.out, if_pos ((HFH.out HG.out).2 hd)]
          have hb : ((((48 + d : Nat) : Int) != ((x.toNat : Nat) : Int))) = false := by rw [hd]; simp
          clear hd
          go_enter Try.func65, Try.ntmps65
          go_wp2_with (first | (go_at_call 77; refine (calls_t (xdigit x.toNat (by omega) _) HG.out).mono ?_; rintro e w1 ⟨rfl, rfl⟩) | (go_at_call 78; refine (HC.out _).mono ?_; rintro e w1 ⟨rfl, rfl⟩))
          go_ret
          exact NP.mk (by rw [hc.out]; rfl)
        · have hc : Hid (chk s.data.toList = 12) := by
            unfold Hid chk
            rw [if_pos HS.out, if_neg (fun h => hd ((HFH.out HG.out).1 h))]
          have hb : ((((48 + d : Nat) : Int) != ((x.toNat : Nat) : Int))) = true := by rw [bne_iff_ne]; omega
          clear hd
          go_enter Try.func65, Try.ntmps65
          go_wp2_with (first | (go_at_call 77; refine (calls_t (xdigit x.toNat (by omega) _) HG.out).mono ?_; rintro e w1 ⟨rfl, rfl⟩) | (go_at_call 78; refine (HC.out _).mono ?_; rintro e w1 ⟨rfl, rfl⟩))
          go_ret
          exact NP.mk (by rw [hc.out]; rfl)
      · have hA : dgA (s.data.toList.take 11) = 0 := if_neg hh
        have hE : dgE (s.data.toList.take 11) = 11 := if_neg hh
        have hc : Hid (chk s.data.toList = 11) := by
          unfold Hid chk
          rw [if_neg (by rw [HSH.out, Bool.and_eq_true]; exact fun h => hh h.2)]
        rw [hA, hE] at HC
        clear hh hA hE HSH HFH
        go_enter Try.func65, Try.ntmps65
        go_wp2_with (first | (go_at_call 77; refine (calls_t (xdigit x.toNat (by omega) _) HG.out).mono ?_; rintro e w1 ⟨rfl, rfl⟩) | (go_at_call 78; refine (HC.out _).mono ?_; rintro e w1 ⟨rfl, rfl⟩))
        go_ret
        exact NP.mk (by rw [hc.out]; rfl)
    · have HG : Hid (¬ Dg x.toNat) := hg
      have hc : Hid (chk s.data.toList = 11) := by
        unfold Hid chk
        rw [if_neg (by rw [HSH.out, Bool.and_eq_true, decide_eq_true_eq]; exact fun h => hg h.1)]
      clear hg HSH HFH HC
      go_enter Try.func65, Try.ntmps65
      go_wp2_with (go_at_call 77; refine (calls_f (xdigit x.toNat (by omega) _) HG.out).mono ?_; rintro e w1 ⟨rfl, rfl⟩)
      go_ret
      exact NP.mk (by rw [hc.out]; rfl)
  · have hne : (((s.size : Nat) : Int) != 12) = true := by rw [bne_iff_ne]; omega
    have hc : Hid (chk s.data.toList = 11) := by
      unfold Hid chk shp
      rw [if_neg (by rw [Bool.and_eq_true, decide_eq_true_eq]; exact fun h => h12 h.1)]
    clear h12
    go_enter Try.func65, Try.ntmps65
    go_wp2_with fail
    go_ret
    exact NP.mk (by rw [hc.out]; rfl)
end Go.Proofs.Ytbgdmpaghkmadaa.N5
