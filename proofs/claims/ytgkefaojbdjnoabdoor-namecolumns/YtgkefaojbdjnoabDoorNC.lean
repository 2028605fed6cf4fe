/- The law's walk: Columns. -/
import Derived.Test.YtgkefaojbdjnoabDoorZE
import Derived.WalkKit
import Derived.ProofKit
import Derived.Handy
import Derived.WalkLawsBesides
import Derived.WalkSpells
import Derived.BigQuiet
import Derived.BigCall
import Derived.Deep.QuietTactic
import Derived.Deep.Light
import Derived.Deep.OwnRows
import Derived.Laws.AppendOwnNone
import Derived.Laws.Strings3
import Derived.Laws.RangeAny
import Derived.Deep.RegionWith
import Derived.Lib.BitFns
import Derived.Lib.Walk
import Derived.Lib.Strings
import Derived.Lib.OthersKept
import Derived.Deep.CutBlock
import Derived.Deep.DeepCutAuto
import Derived.Deep.LoopGhost
import Derived.Deep.RegionHeld3
import Derived.Lib.SmallJoins
import Derived.Maps.AppendAt
import Derived.Laws.IdiomStrings
namespace Go.Proofs.YtgkefaojbdjnoabDoor
open Go.RowKit
set_option linter.unusedVariables false
set_option linter.unusedSimpArgs false
theorem fit_begins {l : List UInt8} {n : Nat} (h : width l ≤ n) : ∃ m, fit l n = l ++ m := by
  unfold fit
  rw [if_pos h]
  exact ⟨_, rfl⟩
theorem bdrew {B : Nat} {a w : World} (h : Below B a w) (n : Nat) : Below B a (w.drewN n) := h.trans ⟨rfl, rfl, rfl, Nat.le_refl _, fun _ _ => rfl⟩
set_option maxRecDepth 100000 in
set_option maxHeartbeats 8000000 in
theorem lcolumns (s : ByteArray) (n : Nat) (hn : n < 256) (w : World) (ht : Tab w) : Calls Tryd.prog 3 #[.string s, .int .u8 n] w (TRUE w) := by
  have HT : Hid (Tab w) := ht
  clear ht
  by_cases hz : 1000 < s.size
  · have hz' : 1000 < (s.size : Int) := by omega
    clear hz
    go_enter Tryd.func3, Tryd.ntmps3
    go_wp2_with fail
    refine (awake _ HT.out).mono ?_
    rintro e w3 ⟨rfl, hb3⟩
    go_wp2_with fail
    go_ret
    exact ⟨rfl, hb3⟩
  have hz' : ¬ 1000 < (s.size : Int) := by omega
  have hz2 : s.size ≤ 1000 := by omega
  clear hz
  have fin : ∀ (t : ByteArray) (W : Nat), t.size ≤ 5096 → W ≤ 2000 → (∀ w, Calls Tryd.prog 5 #[.string s, .int .i64 n] w fun e w' => e = .returned (.string t) ∧ Below w.heap.size w w') → (∀ w, Calls Tryd.prog 6 #[.string t] w fun e w' => e = .returned (.int .i64 n) ∧ Below w.heap.size w w') → (∀ w, Calls Tryd.prog 6 #[.string s] w fun e w' => e = .returned (.int .i64 W) ∧ Below w.heap.size w w') → (W ≤ n → ∃ m, t.data.toList = s.data.toList ++ m) → Calls Tryd.prog 3 #[.string s, .int .u8 n] w (TRUE w) := by
    intro t W hts hWl c1 c2 c3 hbg
    have C1 : Hid _ := c1
    have C2 : Hid _ := c2
    have C3 : Hid _ := c3
    clear c1 c2 c3
    by_cases hW : W ≤ n
    · obtain ⟨m, hm⟩ := hbg hW
      have HM : Hid (t.data.toList = s.data.toList ++ m) := hm
      have hlt : s.size ≤ t.size := by
        have h1 := congrArg List.length hm
        rw [List.length_append] at h1
        have h2 : t.data.toList.length = t.size := rfl
        have h3 : s.data.toList.length = s.size := rfl
        omega
      have hWz : ¬ (n : Int) < (W : Int) := by omega
      clear hbg hm hW
      go_enter Tryd.func3, Tryd.ntmps3
      go_wp2_with fail
      refine Calls.mono (C1.out _) ?_
      rintro e w1 ⟨rfl, hb1⟩
      have H1 : Hid (Below w.heap.size w w1) := hb1
      clear hb1
      go_wp2_with fail
      refine Calls.mono (C2.out _) ?_
      rintro e w2 ⟨rfl, hb2⟩
      have H2 : Hid (Below w.heap.size w w2) := H1.out.trans (hb2.mono H1.out.size)
      clear hb2
      go_wp2_with fail
      go_loopw [6] (fun i wr => ∃ k : Nat, i = .int .i64 k ∧ k ≤ s.size ∧ Hid (Below w.heap.size w wr)) (fun i _ => s.size - (Lib.intOf i).toNat)
      case atStart => exact ⟨0, rfl, Nat.zero_le _, H2⟩
      case round =>
        obtain ⟨k, rfl, hk, hbr⟩ := hrel
        by_cases hks : k < s.size
        · have hkz : (k : Int) < (s.size : Int) := by omega
          have hkt : k < t.size := by omega
          have hktz : (k : Int) < (t.size : Int) := by omega
          have hst : t[k] = s[k] := by
            have h1 : t.data.toList[k]? = some t[k] := Lib.data_getElem? t k hkt
            have h2 : s.data.toList[k]? = some s[k] := Lib.data_getElem? s k hks
            rw [HM.out, List.getElem?_append_left (by exact hks), h2] at h1
            exact (Option.some.inj h1).symm
          obtain ⟨x, hx⟩ : ∃ x : UInt8, s[k] = x := ⟨_, rfl⟩
          have hy : t[k] = x := hst.trans hx
          clear hst
          go_wp2_with fail
          go_quiet (fail)
          go_wp2
          go_roundw
          case rel => exact ⟨k + 1, by go_num, by omega, bdrew hbr.out _⟩
          case measure =>
            simp [Lib.intOf]
            omega
        · have hkz : ¬ (k : Int) < (s.size : Int) := by omega
          have hke : ((k : Int) == (s.size : Int)) = true := beq_iff_eq.2 (by omega)
          go_wp2_with fail
          go_quiet (fail)
          generalize hwq : wr.drewN nq = wq at *
          have HBq : Hid (Below w.heap.size w wq) := by unfold Hid; rw [← hwq]; exact bdrew hbr.out _
          clear hwq
          go_wp2_with fail
          refine Calls.mono (C3.out _) ?_
          rintro e w3 ⟨rfl, hb3⟩
          have H3 : Hid (Below w.heap.size w w3) := HBq.out.trans (hb3.mono HBq.out.size)
          clear hb3
          go_wp2_with fail
          refine (awake _ (HT.out.below H3.out)).mono ?_
          rintro e w4 ⟨rfl, hb4⟩
          go_wp2_with fail
          go_ret
          exact ⟨rfl, H3.out.trans (hb4.mono H3.out.size)⟩
    · have hWz : (n : Int) < (W : Int) := by omega
      clear hbg hW
      go_enter Tryd.func3, Tryd.ntmps3
      go_wp2_with fail
      refine Calls.mono (C1.out _) ?_
      rintro e w1 ⟨rfl, hb1⟩
      have H1 : Hid (Below w.heap.size w w1) := hb1
      clear hb1
      go_wp2_with fail
      refine Calls.mono (C2.out _) ?_
      rintro e w2 ⟨rfl, hb2⟩
      have H2 : Hid (Below w.heap.size w w2) := H1.out.trans (hb2.mono H1.out.size)
      clear hb2
      go_wp2_with fail
      go_loopw [6] (fun i wr => ∃ k : Nat, i = .int .i64 k ∧ k ≤ s.size ∧ Hid (Below w.heap.size w wr)) (fun i _ => s.size - (Lib.intOf i).toNat)
      case atStart => exact ⟨0, rfl, Nat.zero_le _, H2⟩
      case round =>
        obtain ⟨k, rfl, hk, hbr⟩ := hrel
        by_cases hks : k < s.size
        · have hkz : (k : Int) < (s.size : Int) := by omega
          by_cases hkt : k < t.size
          · have hktz : (k : Int) < (t.size : Int) := by omega
            obtain ⟨x, hx⟩ : ∃ x : UInt8, s[k] = x := ⟨_, rfl⟩
            obtain ⟨y, hy⟩ : ∃ y : UInt8, t[k] = y := ⟨_, rfl⟩
            by_cases hxy : ((x.toNat : Int) == (y.toNat : Int)) = true
            · go_wp2_with fail
              go_quiet (fail)
              go_wp2
              go_roundw
              case rel => exact ⟨k + 1, by go_num, by omega, bdrew hbr.out _⟩
              case measure =>
                simp [Lib.intOf]
                omega
            · have hxf : ((x.toNat : Int) == (y.toNat : Int)) = false := by simpa using hxy
              clear hxy
              go_wp2_with fail
              go_quiet (fail)
              generalize hwq : wr.drewN nq = wq at *
              have HBq : Hid (Below w.heap.size w wq) := by unfold Hid; rw [← hwq]; exact bdrew hbr.out _
              clear hwq
              go_wp2_with fail
              refine Calls.mono (C3.out _) ?_
              rintro e w3 ⟨rfl, hb3⟩
              have H3 : Hid (Below w.heap.size w w3) := HBq.out.trans (hb3.mono HBq.out.size)
              clear hb3
              go_wp2_with fail
              refine (awake _ (HT.out.below H3.out)).mono ?_
              rintro e w4 ⟨rfl, hb4⟩
              go_wp2_with fail
              go_ret
              exact ⟨rfl, H3.out.trans (hb4.mono H3.out.size)⟩
          · have hktz : ¬ (k : Int) < (t.size : Int) := by omega
            go_wp2_with fail
            go_quiet (fail)
            generalize hwq : wr.drewN nq = wq at *
            have HBq : Hid (Below w.heap.size w wq) := by unfold Hid; rw [← hwq]; exact bdrew hbr.out _
            clear hwq
            go_wp2_with fail
            refine Calls.mono (C3.out _) ?_
            rintro e w3 ⟨rfl, hb3⟩
            have H3 : Hid (Below w.heap.size w w3) := HBq.out.trans (hb3.mono HBq.out.size)
            clear hb3
            go_wp2_with fail
            refine (awake _ (HT.out.below H3.out)).mono ?_
            rintro e w4 ⟨rfl, hb4⟩
            go_wp2_with fail
            go_ret
            exact ⟨rfl, H3.out.trans (hb4.mono H3.out.size)⟩
        · have hkz : ¬ (k : Int) < (s.size : Int) := by omega
          go_wp2_with fail
          go_quiet (fail)
          generalize hwq : wr.drewN nq = wq at *
          have HBq : Hid (Below w.heap.size w wq) := by unfold Hid; rw [← hwq]; exact bdrew hbr.out _
          clear hwq
          go_wp2_with fail
          refine Calls.mono (C3.out _) ?_
          rintro e w3 ⟨rfl, hb3⟩
          have H3 : Hid (Below w.heap.size w w3) := HBq.out.trans (hb3.mono HBq.out.size)
          clear hb3
          go_wp2_with fail
          refine (awake _ (HT.out.below H3.out)).mono ?_
          rintro e w4 ⟨rfl, hb4⟩
          go_wp2_with fail
          go_ret
          exact ⟨rfl, H3.out.trans (hb4.mono H3.out.size)⟩
  have hfs : (fit s.data.toList n).length ≤ 5096 := by
    have h1 := fit_len s.data.toList n
    have h2 : s.data.toList.length = s.size := rfl
    omega
  have hwl : width s.data.toList ≤ 2000 := by
    have h1 := width_le s.data.toList
    have h2 : s.data.toList.length = s.size := rfl
    omega
  refine fin ⟨(fit s.data.toList n).toArray⟩ (width s.data.toList) hfs hwl (fun w => ?_) (fun w => ?_) (fun w => xwidth s (by omega) w) (fun h => fit_begins h)
  · have h := xfit s (by omega) n w
    rw [fitZ_yes n (by omega)] at h
    exact h
  · have h := xwidth ⟨(fit s.data.toList n).toArray⟩ (by show (fit s.data.toList n).length ≤ _; omega) w
    have h2 : width (⟨(fit s.data.toList n).toArray⟩ : ByteArray).data.toList = n := width_fit _ _
    rw [h2] at h
    exact h
end Go.Proofs.YtgkefaojbdjnoabDoor
