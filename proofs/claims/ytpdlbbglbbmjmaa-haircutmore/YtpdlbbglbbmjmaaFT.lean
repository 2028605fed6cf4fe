/- The walk of Div64 of math/bits: it divides as it should. Conditions: the arguments lie in their ranges, the upper word is below the divisor. -/
import Derived.Test.YtpdlbbglbbmjmaaFS
import Derived.WalkKit
import Derived.ProofKit
import Derived.Handy
import Derived.WalkLawsBesides
import Derived.WalkSpells
import Derived.BigQuiet
import Derived.Deep.QuietTactic
import Derived.Deep.Light
import Derived.Deep.OwnRows
import Derived.Laws.AppendOwnNone
import Derived.Deep.RegionWith
import Derived.Lib.BitFns
import Derived.Lib.Walk
import Derived.Deep.CutBlock
import Derived.Deep.DeepCutAuto
import Derived.Deep.LoopGhost
import Derived.Deep.RegionHeld
namespace Go.Proofs.Ytpdlbbglbbmjmaa.N1
open Go.RowKit
set_option linter.unusedVariables false
set_option linter.unusedSimpArgs false

theorem shl_facts (hi lo y : Int) (s : Nat) (hs : s ≤ 63) (h0 : 0 < hi) (h1 : hi < y) (h3 : 0 ≤ lo) (h4 : lo < 18446744073709551616) (hy2 : y * 2 ^ s < 18446744073709551616) :
    ∃ u t, bits .or .u64 (IntKind.u64.wrap (hi * 2 ^ s)) (lo / 2 ^ (64 - s)) = u ∧ IntKind.u64.wrap (lo * 2 ^ s) = t ∧ (0 ≤ t ∧ t < 18446744073709551616) ∧ (0 ≤ u ∧ u < y * 2 ^ s) ∧ wd u t = wd hi lo * 2 ^ s := by
  obtain ⟨a, rfl⟩ := Int.eq_ofNat_of_zero_le (show 0 ≤ hi by omega)
  obtain ⟨b, rfl⟩ := Int.eq_ofNat_of_zero_le h3
  have hp : 0 < (2 : Int) ^ s := Int.pow_pos (by omega)
  have hA : (a : Int) * 2 ^ s < y * 2 ^ s := Int.mul_lt_mul_of_pos_right h1 hp
  have hA0 : 0 ≤ (a : Int) * 2 ^ s := Int.mul_nonneg (by omega) (by omega)
  have e1 : IntKind.u64.wrap ((a : Int) * 2 ^ s) = (a : Int) * 2 ^ s := by rw [IntKind.wrap_u64]; omega
  have ep : ((2 : Int) ^ s) = ((2 ^ s : Nat) : Int) := by rw [Int.natCast_pow]; rfl
  have ep2 : ((2 : Int) ^ (64 - s)) = ((2 ^ (64 - s) : Nat) : Int) := by rw [Int.natCast_pow]; rfl
  have ew : (2 : Nat) ^ s * 2 ^ (64 - s) = 18446744073709551616 := by
    rw [← Nat.pow_add, show s + (64 - s) = 64 by omega]
  have hdiv : b / 2 ^ (64 - s) < 2 ^ s := by
    rw [Nat.div_lt_iff_lt_mul (Nat.two_pow_pos _), ew]
    omega
  have ed : ((b : Int)) / 2 ^ (64 - s) = ((b / 2 ^ (64 - s) : Nat) : Int) := by rw [ep2]; rfl
  have ea : ((a : Int)) * 2 ^ s = ((a * 2 ^ s : Nat) : Int) := by rw [ep, Int.natCast_mul]
  have hlt : a * 2 ^ s < 18446744073709551616 := by omega
  have hb2 : b / 2 ^ (64 - s) < 18446744073709551616 := Nat.lt_of_le_of_lt (Nat.div_le_self _ _) (by omega)
  have eor : bits .or .u64 (IntKind.u64.wrap ((a : Int) * 2 ^ s)) ((b : Int) / 2 ^ (64 - s)) = ((a * 2 ^ s + b / 2 ^ (64 - s) : Nat) : Int) := by
    rw [e1, ea, ed, u64_or_nat _ _ hlt hb2]
    congr 1
    have := Nat.shiftLeft_add_eq_or_of_lt hdiv a
    rw [Nat.shiftLeft_eq] at this
    exact this.symm
  refine ⟨_, _, eor, rfl, by rw [IntKind.wrap_u64]; omega, ?_, ?_⟩
  · refine ⟨Int.natCast_nonneg _, ?_⟩
    have h5 : (a + 1 : Int) * 2 ^ s ≤ y * 2 ^ s := Int.mul_le_mul_of_nonneg_right (by omega) (by omega)
    rw [Int.add_mul, Int.one_mul] at h5
    rw [Int.natCast_add, ← ea]
    omega
  · rw [IntKind.wrap_u64]
    have e3 : b * 2 ^ s / 18446744073709551616 = b / 2 ^ (64 - s) := by
      rw [← ew, Nat.mul_comm (2 ^ s) (2 ^ (64 - s)), Nat.mul_div_mul_right _ _ (Nat.two_pow_pos s)]
    have eb : ((b : Int)) * 2 ^ s = ((b * 2 ^ s : Nat) : Int) := by rw [ep, Int.natCast_mul]
    unfold wd
    rw [Int.add_mul, eb, Int.natCast_add, ← ea]
    have e4 : ((b / 2 ^ (64 - s) : Nat) : Int) = ((b * 2 ^ s : Nat) : Int) / 18446744073709551616 := by rw [← e3]; rfl
    rw [e4, show (a : Int) * 18446744073709551616 * 2 ^ s = (a : Int) * 2 ^ s * 18446744073709551616 by rw [Int.mul_assoc, Int.mul_comm 18446744073709551616, ← Int.mul_assoc]]
    omega

theorem div64_fin (V y U Y Q R : Int) (s : Nat) (hU : U = V * 2 ^ s) (hY : Y = y * 2 ^ s) (e : Q * Y + R = U) (hR : 0 ≤ R ∧ R < Y) (hy : 0 < y) : Q = V / y ∧ R / 2 ^ s = V % y := by
  have hp : 0 < (2 : Int) ^ s := Int.pow_pos (by omega)
  generalize (2 : Int) ^ s = p at *
  have e2 : R = (V - Q * y) * p := by rw [Int.sub_mul, ← hU, ← e, hY]; grind
  have h1 : 0 ≤ V - Q * y := Int.le_of_mul_le_mul_right (a := p) (by rw [← e2]; omega) hp
  have h2 : V - Q * y < y := Int.lt_of_mul_lt_mul_right (a := p) (by rw [← e2, ← hY]; exact hR.2) (by omega)
  have h3 := (Int.ediv_emod_unique (a := V) (b := y) (r := V - Q * y) (q := Q) hy).2 ⟨by rw [Int.mul_comm y Q]; omega, h1, h2⟩
  refine ⟨h3.1.symm, ?_⟩
  rw [h3.2, e2, Int.mul_ediv_cancel _ (by omega)]

theorem div64_sum (u t d1 d0 Q1 R1 Q0 R0 Y : Int) (h1 : Q1 * Y + R1 = u * 4294967296 + d1) (h0 : Q0 * Y + R0 = R1 * 4294967296 + d0) (ht : d1 * 4294967296 + d0 = t) : (Q1 * 4294967296 + Q0) * Y + R0 = wd u t := by
  unfold wd
  rw [← ht]
  grind

set_option maxHeartbeats 4000000 in
theorem xdiv64_pos (hi lo y : Int) (w : World) (h0 : 0 < hi) (h1 : hi < y) (h2 : y < 18446744073709551616) (h3 : 0 ≤ lo) (h4 : lo < 18446744073709551616) :
    Calls Try.prog 84 #[.int .u64 hi, .int .u64 lo, .int .u64 y] w fun e w' => e = .returned (.tuple #[.int .u64 (wd hi lo / y), .int .u64 (wd hi lo % y)]) ∧ ∃ m, w' = w.drewN m := by
  have g0 : (y == 0) = false := by simp; omega
  have g1 : (hi == 0) = false := by simp; omega
  have g2 : ¬ y ≤ hi := by omega
  go_enter Try.func84, Try.ntmps84
  go_wp2_with fail
  refine (xlz64 y _ (by omega) (by omega)).mono ?_
  rintro e w1 ⟨rfl, rfl⟩
  obtain ⟨s, hs, es, hy1, hy2⟩ := lz_spec y (by omega) (by omega)
  rw [es]
  clear es
  have hs' : (s : Int) ≤ 63 := by omega
  obtain ⟨u, t, eu, et, bt, bu, hut⟩ := shl_facts hi lo y s hs h0 h1 h3 h4 hy2
  have EU : Hid _ := eu
  have ET : Hid _ := et
  have HUT : Hid _ := hut
  clear eu et hut
  go_upto_block 0 with fail
  rw [EU.out, ET.out]
  generalize hY : y * 2 ^ s = Y at *
  have HY : Hid _ := hY
  clear hY
  rw [and_low32 Y (by omega) hy2, and_low32 t bt.1 bt.2]
  have hkn1 : Kn u (t / 4294967296) Y (Y / 4294967296) (Y % 4294967296) := ⟨by omega, by omega, by omega, bu, by omega⟩
  have hst := kn_start hkn1
  rw [show IntKind.u64.wrap (u.tdiv (Y / 4294967296)) = u / (Y / 4294967296) from by
    rw [Int.tdiv_eq_ediv_of_nonneg bu.1, IntKind.wrap_u64]
    have := hst.2.1
    omega]
  rw [show IntKind.u64.wrap (u - IntKind.u64.wrap (u / (Y / 4294967296) * (Y / 4294967296))) = u % (Y / 4294967296) from by
    have h5 := hst.1
    have h6 := hst.2.2.1
    generalize u / (Y / 4294967296) * (Y / 4294967296) = z at *
    rw [IntKind.wrap_u64, IntKind.wrap_u64]
    omega]
  have hy1b : 2147483648 ≤ Y / 4294967296 ∧ Y / 4294967296 < 4294967296 := by omega
  have hy0b : 0 ≤ Y % 4294967296 ∧ Y % 4294967296 < 4294967296 := by omega
  have hd1b : 0 ≤ t / 4294967296 ∧ t / 4294967296 < 4294967296 := by omega
  have hd0b : 0 ≤ t % 4294967296 ∧ t % 4294967296 < 4294967296 := by omega
  have htt : Hid (t / 4294967296 * 4294967296 + t % 4294967296 = t) := by unfold Hid; omega
  generalize Y / 4294967296 = y1 at *
  generalize Y % 4294967296 = y0 at *
  generalize t / 4294967296 = d1 at *
  generalize t % 4294967296 = d0 at *
  have hq0b := hst.2.1
  have hr0b := hst.2.2.1
  generalize u / y1 = q at *
  generalize u % y1 = r at *
  have Hkn1 : Hid (Kn u d1 Y y1 y0) := hkn1
  have Hst : Hid (KnR u d1 Y y1 q r) := hst
  clear hkn1 hst
  go_cut [15] (fun q1 wc => q1 = .int .u64 ((u * 4294967296 + d1) / Y) ∧ wc = w)
  case first =>
    go_wp2_with fail
    go_loop [15, 16] (fun qi ri => ∃ q r : Int, qi = .int .u64 q ∧ ri = .int .u64 r ∧ (0 ≤ q ∧ q ≤ 4294967297) ∧ (0 ≤ r ∧ r < 4294967296) ∧ Hid (KnR u d1 Y y1 q r))
      (fun qi _ => (intOf qi).toNat)
    case atStart => exact ⟨q, r, rfl, rfl, by omega, by omega, Hst.out⟩
    case round =>
      obtain ⟨q, r, rfl, rfl, bq, br, hr⟩ := hrel
      by_cases c1 : 4294967296 ≤ q
      · by_cases c2 : r + y1 < 4294967296
        · have hn := kn_next Hkn1.out hr.out (Or.inl c1) c2
          have Hn : Hid (KnR u d1 Y y1 (q - 1) (r + y1)) := hn
          clear hn
          go_wp2
          exact ⟨⟨q - 1, r + y1, rfl, rfl, by omega, by omega, Hn.out⟩, by simp [intOf]; omega⟩
        · have hn := kn_break Hkn1.out hr.out (Or.inl c1) (by omega)
          have Hn : Hid _ := hn
          clear hn
          go_wp2_with fail
          go_meet
          case rel => exact ⟨by rw [← Hn.out], rfl⟩
      · have hqy : 0 ≤ q * y0 ∧ q * y0 < 18446744073709551616 := by
          have h5 := Int.mul_le_mul (show q ≤ 4294967295 by omega) (show y0 ≤ 4294967295 by omega) hy0b.1 (by omega)
          exact ⟨Int.mul_nonneg bq.1 hy0b.1, by omega⟩
        by_cases c3 : r * 4294967296 + d1 < q * y0
        · have c3' : 4294967296 * r + d1 < q * y0 := by omega
          by_cases c2 : r + y1 < 4294967296
          · have hn := kn_next Hkn1.out hr.out (Or.inr c3) c2
            have hq1 : 0 ≤ q - 1 := hn.2.1.1
            have Hn : Hid (KnR u d1 Y y1 (q - 1) (r + y1)) := hn
            clear hn c3
            go_wp2
            exact ⟨⟨q - 1, r + y1, rfl, rfl, by omega, by omega, Hn.out⟩, by simp [intOf]; omega⟩
          · have hn := kn_break Hkn1.out hr.out (Or.inr c3) (by omega)
            have hq1 : 0 ≤ q - 1 := by rw [hn]; exact Int.ediv_nonneg (by omega) (by omega)
            have Hn : Hid _ := hn
            clear hn c3
            go_wp2_with fail
            go_meet
            case rel => exact ⟨by rw [← Hn.out], rfl⟩
        · have c3' : ¬ 4294967296 * r + d1 < q * y0 := by omega
          have hn := kn_end Hkn1.out hr.out (by omega)
          have Hn : Hid _ := hn
          clear hn c3
          go_wp2_with fail
          go_meet
          case rel => exact ⟨by rw [← Hn.out], rfl⟩
  case rest =>
    obtain ⟨rfl, rfl⟩ := hcut
    have hR1 := kn_rest Hkn1.out hy2
    have hQ1b : 0 ≤ (u * 4294967296 + d1) / Y ∧ (u * 4294967296 + d1) / Y < 4294967296 := ⟨Int.ediv_nonneg (by omega) (by omega), kn_lt Hkn1.out⟩
    have hR1b : 0 ≤ (u * 4294967296 + d1) % Y ∧ (u * 4294967296 + d1) % Y < Y := ⟨Int.emod_nonneg _ (by omega), Int.emod_lt_of_pos _ (by omega)⟩
    have hD1 : Hid ((u * 4294967296 + d1) / Y * Y + (u * 4294967296 + d1) % Y = u * 4294967296 + d1) := by unfold Hid; rw [Int.mul_comm]; exact Int.mul_ediv_add_emod _ _
    generalize (u * 4294967296 + d1) / Y = Q1 at *
    generalize (u * 4294967296 + d1) % Y = R1 at *
    have HR1 : Hid _ := hR1
    clear hR1 Hst hq0b hr0b
    go_upto_block 2 with fail
    rw [show IntKind.u64.wrap (IntKind.u64.wrap (IntKind.u64.wrap (u * 4294967296) + d1) - IntKind.u64.wrap (Q1 * Y)) = R1 from by
      simp only [IntKind.wrap_u64]
      exact HR1.out]
    have hkn2 : Kn R1 d0 Y y1 y0 := ⟨Hkn1.out.1, hy0b, hy1b, hR1b, hd0b⟩
    have hst2 := kn_start hkn2
    rw [show IntKind.u64.wrap (R1.tdiv y1) = R1 / y1 from by
      rw [Int.tdiv_eq_ediv_of_nonneg hR1b.1, IntKind.wrap_u64]
      have := hst2.2.1
      omega]
    rw [show IntKind.u64.wrap (R1 - IntKind.u64.wrap (R1 / y1 * y1)) = R1 % y1 from by
      have h5 := hst2.1
      have h6 := hst2.2.2.1
      generalize R1 / y1 * y1 = z at *
      rw [IntKind.wrap_u64, IntKind.wrap_u64]
      omega]
    have hq2b := hst2.2.1
    have hr2b := hst2.2.2.1
    generalize R1 / y1 = q2 at *
    generalize R1 % y1 = r2 at *
    have Hkn2 : Hid (Kn R1 d0 Y y1 y0) := hkn2
    have Hst2 : Hid (KnR R1 d0 Y y1 q2 r2) := hst2
    clear hkn2 hst2
    obtain ⟨w, rfl⟩ : ∃ w : World, w = wc := ⟨_, rfl⟩
    go_cut [18] (fun q1 wc => q1 = .int .u64 ((R1 * 4294967296 + d0) / Y) ∧ wc = w)
    case first =>
      go_wp2_with fail
      go_loop [18, 16] (fun qi ri => ∃ q r : Int, qi = .int .u64 q ∧ ri = .int .u64 r ∧ (0 ≤ q ∧ q ≤ 4294967297) ∧ (0 ≤ r ∧ r < 4294967296) ∧ Hid (KnR R1 d0 Y y1 q r))
        (fun qi _ => (intOf qi).toNat)
      case atStart => exact ⟨q2, r2, rfl, rfl, by omega, by omega, Hst2.out⟩
      case round =>
        obtain ⟨q, r, rfl, rfl, bq, br, hr⟩ := hrel
        by_cases c1 : 4294967296 ≤ q
        · by_cases c2 : r + y1 < 4294967296
          · have hn := kn_next Hkn2.out hr.out (Or.inl c1) c2
            have Hn : Hid (KnR R1 d0 Y y1 (q - 1) (r + y1)) := hn
            clear hn
            go_wp2
            exact ⟨⟨q - 1, r + y1, rfl, rfl, by omega, by omega, Hn.out⟩, by simp [intOf]; omega⟩
          · have hn := kn_break Hkn2.out hr.out (Or.inl c1) (by omega)
            have Hn : Hid _ := hn
            clear hn
            go_wp2_with fail
            go_meet
            case rel => exact ⟨by rw [← Hn.out], rfl⟩
        · have hqy : 0 ≤ q * y0 ∧ q * y0 < 18446744073709551616 := by
            have h5 := Int.mul_le_mul (show q ≤ 4294967295 by omega) (show y0 ≤ 4294967295 by omega) hy0b.1 (by omega)
            exact ⟨Int.mul_nonneg bq.1 hy0b.1, by omega⟩
          by_cases c3 : r * 4294967296 + d0 < q * y0
          · have c3' : 4294967296 * r + d0 < q * y0 := by omega
            by_cases c2 : r + y1 < 4294967296
            · have hn := kn_next Hkn2.out hr.out (Or.inr c3) c2
              have hq1 : 0 ≤ q - 1 := hn.2.1.1
              have Hn : Hid (KnR R1 d0 Y y1 (q - 1) (r + y1)) := hn
              clear hn c3
              go_wp2
              exact ⟨⟨q - 1, r + y1, rfl, rfl, by omega, by omega, Hn.out⟩, by simp [intOf]; omega⟩
            · have hn := kn_break Hkn2.out hr.out (Or.inr c3) (by omega)
              have hq1 : 0 ≤ q - 1 := by rw [hn]; exact Int.ediv_nonneg (by omega) (by omega)
              have Hn : Hid _ := hn
              clear hn c3
              go_wp2_with fail
              go_meet
              case rel => exact ⟨by rw [← Hn.out], rfl⟩
          · have c3' : ¬ 4294967296 * r + d0 < q * y0 := by omega
            have hn := kn_end Hkn2.out hr.out (by omega)
            have Hn : Hid _ := hn
            clear hn c3
            go_wp2_with fail
            go_meet
            case rel => exact ⟨by rw [← Hn.out], rfl⟩
    case rest =>
      obtain ⟨rfl, rfl⟩ := hcut
      have hR0 := kn_rest Hkn2.out hy2
      have hQ0b : 0 ≤ (R1 * 4294967296 + d0) / Y ∧ (R1 * 4294967296 + d0) / Y < 4294967296 := ⟨Int.ediv_nonneg (by omega) (by omega), kn_lt Hkn2.out⟩
      have hR0b : 0 ≤ (R1 * 4294967296 + d0) % Y ∧ (R1 * 4294967296 + d0) % Y < Y := ⟨Int.emod_nonneg _ (by omega), Int.emod_lt_of_pos _ (by omega)⟩
      have hD0 : Hid ((R1 * 4294967296 + d0) / Y * Y + (R1 * 4294967296 + d0) % Y = R1 * 4294967296 + d0) := by unfold Hid; rw [Int.mul_comm]; exact Int.mul_ediv_add_emod _ _
      generalize (R1 * 4294967296 + d0) / Y = Q0 at *
      generalize (R1 * 4294967296 + d0) % Y = R0 at *
      have HR0 : Hid _ := hR0
      clear hR0 Hst2 hq2b hr2b
      go_wp2
      go_ret2
      rw [show IntKind.u64.wrap (IntKind.u64.wrap (IntKind.u64.wrap (R1 * 4294967296) + d0) - IntKind.u64.wrap (Q0 * Y)) = R0 from by
        simp only [IntKind.wrap_u64]
        exact HR0.out]
      have hfin := div64_fin (wd hi lo) y (wd u t) Y (Q1 * 4294967296 + Q0) R0 s HUT.out HY.out.symm (div64_sum u t d1 d0 Q1 R1 Q0 R0 Y hD1.out hD0.out htt.out) hR0b (by omega)
      exact ⟨ret_two (by rw [← hfin.1]) (by rw [← hfin.2]), 0, rfl⟩

theorem xdiv64 : Div64Said := by
  intro hi lo y w h0 h1 h2 h3 h4
  by_cases hz : hi = 0
  · subst hz
    exact xdiv64_zero lo y w ⟨by omega, h2⟩ ⟨h3, h4⟩
  · exact xdiv64_pos hi lo y w (by omega) h1 h2 h3 h4
end Go.Proofs.Ytpdlbbglbbmjmaa.N1
