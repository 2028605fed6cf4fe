/- Law Stays. -/
import Derived.Test.YtgdoeflnfcjefaaU
import Derived.WalkKit
import Derived.ProofKit
import Derived.Handy
import Derived.WalkLawsBesides
import Derived.WalkSpells
import Derived.BigQuiet
import Derived.BigCall
import Derived.Deep.QuietTactic
import Derived.Deep.Light
import Derived.Deep.OwnRows
import Derived.Laws.AppendOwnNone
import Derived.Laws.Strings3
import Derived.Laws.RangeAny
import Derived.Deep.RegionWith
import Derived.Lib.BitFns
import Derived.Lib.Walk
import Derived.Lib.Strings
import Derived.Lib.OthersKept
import Derived.Deep.CutBlock
import Derived.Deep.DeepCutAuto
import Derived.Deep.LoopGhost
import Derived.Deep.RegionHeld3
import Derived.Lib.SmallJoins
import Derived.Maps.AppendAt
import Derived.Laws.IdiomStrings
import Derived.Lib.AppendZeros
import Derived.Deep.WholeRow
import Derived.Laws.BitsAllLaws
import Derived.Lib.ConvBytes
import Derived.Deep.RegionLaw
namespace Go.Proofs.Ytgdoeflnfcjefaa
open Go.RowKit
set_option linter.unusedVariables false
set_option linter.unusedSimpArgs false
set_option maxRecDepth 20000 in
set_option maxHeartbeats 4000000 in
theorem lawstays (s : ByteArray) (hss : s.size ≤ 140737488351232) (a : Option Addr) (n cap : Nat) (a2 : Option Addr) (n2 cap2 : Nat) (m : Int) (hm : I64 m) (w : World) (hb : Byts w a n) (hb2 : Byts w a2 n2) : Calls Try.prog 7 #[.string s, .slice a n cap, .slice a2 n2 cap2, .int .i64 m] w (BB true w) := by
  have HA : Hid (∀ w, Calls Try.prog 9 #[] w (BB true w)) := fun w => lawake w
  have HM : Hid (I64 m) := hm
  have HY : Hid (Byts w a n) := hb
  have hn := hb.len
  have hn2 := hb2.len
  have HN : Hid (Calls Try.prog 16 #[.string s] w (NwP s.data.toList w)) := xnew s (by omega) w
  have HL : Hid (s.data.toList.length = s.size) := rfl
  have HQ : Hid (qcells ⟨s.data.toList, 0, 0⟩ = #[.string s, .int .i64 0, .int .i64 0]) := rfl
  clear hm hb hb2
  by_cases hs : s.size ≤ 6000
  · have hsz : ¬ (6000 : Int) < (s.size : Int) := by omega
    go_enter Try.func7, Try.ntmps7
    go_wp2_with fail
    refine HN.out.mono ?_
    rintro e w1 ⟨q, rfl, hq, HR1, HB1⟩
    have HE1 : Hid (w1.alloc (.cells #[.string s, .int .i64 0, .int .i64 0] 39) = w1.alloc (.cells (qcells ⟨s.data.toList, 0, 0⟩) 39)) := by unfold Hid; rw [HQ.out]
    have hp : w.heap.size ≤ w1.heap.size := HB1.out.size
    have HR2 : Hid (Rm (w1.alloc (.cells (qcells ⟨s.data.toList, 0, 0⟩) 39)) q ⟨s.data.toList, 0, 0⟩) := HR1.out.keep (below_new _ _)
    have HP2 : Hid (Rq (w1.alloc (.cells (qcells ⟨s.data.toList, 0, 0⟩) 39)) w1.heap.size ⟨s.data.toList, 0, 0⟩) := Rq.new _ _
    have HB2 : Hid (Below w.heap.size w (w1.alloc (.cells (qcells ⟨s.data.toList, 0, 0⟩) 39))) := HB1.out.alloc hp _
    clear HN
    go_upto_region 5 with fail
    rw [HE1.out]
    generalize w1.alloc (.cells (qcells ⟨s.data.toList, 0, 0⟩) 39) = w2 at *
    generalize w1.heap.size = p at *
    clear HE1 HR1 HB1 HQ
    go_wp2_with fail
    go_loopw [11] (fun i wr => ∃ (k : Nat) (r : Rd), i = .int .i64 k ∧ k ≤ n ∧ k ≤ 30 ∧ Hid (Rm wr q r) ∧ Hid (Rq wr p r) ∧ Hid (r.s = s.data.toList) ∧ Hid (Below w.heap.size w wr)) (fun i _ => n - (Lib.intOf i).toNat)
    case atStart => exact ⟨0, _, rfl, Nat.zero_le _, by omega, HR2, HP2, rfl, HB2⟩
    case round =>
      clear HR2 HP2 HB2
      obtain ⟨k, r, rfl, hk, hk60, HR, HP, HS, HB⟩ := hrel
      by_cases hgo : k < n ∧ k < 30
      · obtain ⟨hkn, hk6⟩ := hgo
        have hkz : (k : Int) < (n : Int) := by omega
        have hk6z : (k : Int) < 30 := by omega
        obtain ⟨b, off, rfl, hbl, hce⟩ := HY.out.at_ (by omega)
        obtain ⟨x, hx, hcx⟩ := hce k hkn
        have hc : wr.cell? ⟨b, off + k, none⟩ = some (.int .u8 x) := (HB.out.cell (by exact hbl)).trans hcx
        have HD : Hid (∀ z : Int, z = ((x % 7 : Nat) : Int) → Calls Try.prog 17 #[.pointer (some ⟨q, 0, none⟩), .pointer (some ⟨p, 0, none⟩), .int .i64 z, .int .i64 m] wr (LP w.heap.size p q (rDo (x % 7) m r) wr)) := fun z hz => lreads w.heap.size p q r m HM.out wr HR.out HP.out HB.out.size hp hq (by rw [HS.out, HL.out]; omega) (x % 7) (by omega) z hz
        have HS2 : Hid ((rDo (x % 7) m r).s = s.data.toList) := (rDo_ok (x % 7) m (show r.Ok from HR.out.le)).2.trans HS.out
        generalize rDo (x % 7) m r = r2 at *
        clear hcx hce
        go_wp2_with fail
        refine (HD.out _ (by omega)).mono ?_
        rintro e w3 ⟨rfl, HR3, HP3, HB3⟩
        have HB4 : Hid (Below w.heap.size w w3) := HB.out.trans HB3.out
        clear HB3 HR HP HB HD
        go_wp2_with fail
        exact ⟨⟨k + 1, r2, by go_num, by omega, by omega, HR3.out, HP3.out, HS2.out, HB4.out⟩, by simp [Lib.intOf]; omega⟩
      · have hre : (r.fl 17).e ≠ 0 := by unfold Rd.fl; split <;> simp_all
        have hrs : (r.fl 17).s.length ≤ 6000 := by rw [fl_s, HS.out, HL.out]; exact hs
        have HF1 : Hid (Calls Try.prog 29 #[.pointer (some ⟨q, 0, none⟩), .int .i64 17] wr (RP q (.tuple #[]) (r.fl 17) wr)) := xfl q r 17 wr HR.out
        generalize r.fl 17 = R at *
        have hez : ((R.e : Int) != 0) = true := by rw [bne_iff_ne]; omega
        have HErr : Hid (∀ w, Rm w q R → Calls Try.prog 24 #[.pointer (some ⟨q, 0, none⟩)] w (NP .i64 R.e w)) := fun w h => xerr q R w h
        have HAt : Hid (∀ w, Rm w q R → Calls Try.prog 25 #[.pointer (some ⟨q, 0, none⟩)] w (NP .i64 R.at_ w)) := fun w h => xat q R w h
        have HFl : Hid (∀ w, Rm w q R → Calls Try.prog 29 #[.pointer (some ⟨q, 0, none⟩), .int .i64 9] w (RP q (.tuple #[]) R w)) := fun w h => by have := xfl q R 9 w h; rw [fl_bad hre] at this; exact this
        have HUi : Hid (∀ w, Rm w q R → Calls Try.prog 18 #[.pointer (some ⟨q, 0, none⟩)] w (RP q (.int .u64 0) R w)) := fun w h => by have := xuint q R w h; rw [rUint_bad hre] at this; exact this
        have HIn : Hid (∀ w, Rm w q R → Calls Try.prog 19 #[.pointer (some ⟨q, 0, none⟩)] w (RP q (.int .i64 0) R w)) := fun w h => by have := xint q R w h; rw [rInt_bad hre] at this; exact this
        have HTe : Hid (∀ w, Rm w q R → Calls Try.prog 20 #[.pointer (some ⟨q, 0, none⟩), .int .i64 m] w (RP q (.string ⟨#[]⟩) R w)) := fun w h => by have := xtext q R m HM.out w h (by omega); rw [rText_bad hre] at this; exact this
        have HBo : Hid (∀ w, Rm w q R → Calls Try.prog 21 #[.pointer (some ⟨q, 0, none⟩)] w (RP q (.bool false) R w)) := fun w h => by have := xbool q R w h; rw [rBool_bad hre] at this; exact this
        have HCo : Hid (∀ w, Rm w q R → Calls Try.prog 30 #[.pointer (some ⟨q, 0, none⟩), .int .i64 m] w (RP q (.int .i64 0) R w)) := fun w h => by have := xcount q R m HM.out w h; rw [rCount_bad hre] at this; exact this
        have HIs : Hid (∀ w, Rm w q R → Calls Try.prog 23 #[.pointer (some ⟨q, 0, none⟩), .int .i64 m] w fun e w' => ∃ ra rc, e = .returned (.slice ra 0 rc) ∧ Hid (Rm w' q R) ∧ Hid (Bt q w w')) := fun w h => by
          have := xints q R m HM.out w h (by omega)
          rw [rInts_bad hre] at this
          refine this.mono ?_
          rintro e w5 ⟨v, ys, rfl, HO5, HY5, HR5, HB5⟩
          have hy : ys = [] := HY5
          subst hy
          obtain ⟨ra, rc, rfl, _⟩ := own_ins HO5.out
          exact ⟨ra, rc, rfl, HR5, HB5⟩
        have HEn : Hid (∀ w, Rm w q R → Calls Try.prog 26 #[.pointer (some ⟨q, 0, none⟩)] w (RP q (.bool false) R w)) := fun w h => by have := xend q R w h; rw [rEnd_bad hre] at this; exact this
        clear hre hrs HS HP HY HL
        have hcd : ((k : Int) < (n : Int) ∧ ¬ (k : Int) < 30) ∨ ¬ (k : Int) < (n : Int) := by omega
        clear hgo
        rcases hcd with ⟨hkz, hk6z⟩ | hkz
        · go_wp2_with fail
          refine HF1.out.mono ?_
          rintro e w4 ⟨rfl, HR4, HB4⟩
          have HD4 : Hid (Below w.heap.size w w4) := HB.out.trans (HB4.out.below hq HB.out.size)
          clear HB4 HB HR HF1
          go_wp2_with fail
          refine (HErr.out _ HR4.out).mono ?_
          rintro e wz ⟨rfl, rfl⟩
          go_wp2_with fail
          refine (HAt.out _ HR4.out).mono ?_
          rintro e wz ⟨rfl, rfl⟩
          go_wp2_with fail
          go_loopw [14] (fun i wr => ∃ (j : Nat), i = .int .i64 j ∧ j ≤ n2 ∧ j ≤ 30 ∧ Hid (Rm wr q R) ∧ Hid (Below w.heap.size w wr)) (fun i _ => n2 - (Lib.intOf i).toNat)
          case atStart => exact ⟨0, rfl, Nat.zero_le _, by omega, HR4, HD4⟩
          case round =>
            clear HR4 HD4
            obtain ⟨j, rfl, hj, hj30, HR9, HD9⟩ := hrel
            by_cases hgo : j < n2 ∧ j < 30
            · obtain ⟨hjn, hj3⟩ := hgo
              have hjz : (j : Int) < (n2 : Int) := by omega
              have hj3z : (j : Int) < 30 := by omega
              go_wp2_with fail
              refine (HFl.out _ HR9.out).mono ?_
              rintro e w10 ⟨rfl, HR10, HB10⟩
              have HD10 : Hid (Below w.heap.size w w10) := HD9.out.trans (HB10.out.below hq HD9.out.size)
              clear HB10 HR9 HD9
              go_wp2_with fail
              refine (HUi.out _ HR10.out).mono ?_
              rintro e w11 ⟨rfl, HR11, HB11⟩
              have HD11 : Hid (Below w.heap.size w w11) := HD10.out.trans (HB11.out.below hq HD10.out.size)
              clear HB11 HR10 HD10
              go_wp2_with fail
              refine (HIn.out _ HR11.out).mono ?_
              rintro e w12 ⟨rfl, HR12, HB12⟩
              have HD12 : Hid (Below w.heap.size w w12) := HD11.out.trans (HB12.out.below hq HD11.out.size)
              clear HB12 HR11 HD11
              go_wp2_with fail
              refine (HTe.out _ HR12.out).mono ?_
              rintro e w13 ⟨rfl, HR13, HB13⟩
              have HD13 : Hid (Below w.heap.size w w13) := HD12.out.trans (HB13.out.below hq HD12.out.size)
              clear HB13 HR12 HD12
              go_wp2_with fail
              refine (HBo.out _ HR13.out).mono ?_
              rintro e w14 ⟨rfl, HR14, HB14⟩
              have HD14 : Hid (Below w.heap.size w w14) := HD13.out.trans (HB14.out.below hq HD13.out.size)
              clear HB14 HR13 HD13
              go_wp2_with fail
              refine (HCo.out _ HR14.out).mono ?_
              rintro e w15 ⟨rfl, HR15, HB15⟩
              have HD15 : Hid (Below w.heap.size w w15) := HD14.out.trans (HB15.out.below hq HD14.out.size)
              clear HB15 HR14 HD14
              go_wp2_with fail
              refine (HIs.out _ HR15.out).mono ?_
              rintro e w16 ⟨ra, rc, rfl, HR16, HB16⟩
              have HD16 : Hid (Below w.heap.size w w16) := HD15.out.trans (HB16.out.below hq HD15.out.size)
              clear HB16 HR15 HD15
              go_wp2_with fail
              refine (HEn.out _ HR16.out).mono ?_
              rintro e w17 ⟨rfl, HR17, HB17⟩
              have HD17 : Hid (Below w.heap.size w w17) := HD16.out.trans (HB17.out.below hq HD16.out.size)
              clear HB17 HR16 HD16
              go_wp2_with fail
              refine (HErr.out _ HR17.out).mono ?_
              rintro e wz ⟨rfl, rfl⟩
              go_wp2_with fail
              refine (HAt.out _ HR17.out).mono ?_
              rintro e wz ⟨rfl, rfl⟩
              go_wp2_with fail
              exact ⟨⟨j + 1, by go_num, by omega, by omega, HR17.out, HD17.out⟩, by simp [Lib.intOf]; omega⟩
            · have hjd : ((j : Int) < (n2 : Int) ∧ ¬ (j : Int) < 30) ∨ ¬ (j : Int) < (n2 : Int) := by omega
              clear hgo
              rcases hjd with ⟨hjz, hj3z⟩ | hjz
              · go_wp2_with fail
                refine (HA.out _).mono ?_
                rintro e w5 ⟨rfl, hb5⟩
                have HB5 : Hid (Below w.heap.size w w5) := HD9.out.trans (hb5.mono HD9.out.size)
                clear hb5
                go_wp2_with fail
                go_ret
                exact BB.mk rfl HB5.out
              · go_wp2_with fail
                refine (HA.out _).mono ?_
                rintro e w5 ⟨rfl, hb5⟩
                have HB5 : Hid (Below w.heap.size w w5) := HD9.out.trans (hb5.mono HD9.out.size)
                clear hb5
                go_wp2_with fail
                go_ret
                exact BB.mk rfl HB5.out
        · go_wp2_with fail
          refine HF1.out.mono ?_
          rintro e w4 ⟨rfl, HR4, HB4⟩
          have HD4 : Hid (Below w.heap.size w w4) := HB.out.trans (HB4.out.below hq HB.out.size)
          clear HB4 HB HR HF1
          go_wp2_with fail
          refine (HErr.out _ HR4.out).mono ?_
          rintro e wz ⟨rfl, rfl⟩
          go_wp2_with fail
          refine (HAt.out _ HR4.out).mono ?_
          rintro e wz ⟨rfl, rfl⟩
          go_wp2_with fail
          go_loopw [14] (fun i wr => ∃ (j : Nat), i = .int .i64 j ∧ j ≤ n2 ∧ j ≤ 30 ∧ Hid (Rm wr q R) ∧ Hid (Below w.heap.size w wr)) (fun i _ => n2 - (Lib.intOf i).toNat)
          case atStart => exact ⟨0, rfl, Nat.zero_le _, by omega, HR4, HD4⟩
          case round =>
            clear HR4 HD4
            obtain ⟨j, rfl, hj, hj30, HR9, HD9⟩ := hrel
            by_cases hgo : j < n2 ∧ j < 30
            · obtain ⟨hjn, hj3⟩ := hgo
              have hjz : (j : Int) < (n2 : Int) := by omega
              have hj3z : (j : Int) < 30 := by omega
              go_wp2_with fail
              refine (HFl.out _ HR9.out).mono ?_
              rintro e w10 ⟨rfl, HR10, HB10⟩
              have HD10 : Hid (Below w.heap.size w w10) := HD9.out.trans (HB10.out.below hq HD9.out.size)
              clear HB10 HR9 HD9
              go_wp2_with fail
              refine (HUi.out _ HR10.out).mono ?_
              rintro e w11 ⟨rfl, HR11, HB11⟩
              have HD11 : Hid (Below w.heap.size w w11) := HD10.out.trans (HB11.out.below hq HD10.out.size)
              clear HB11 HR10 HD10
              go_wp2_with fail
              refine (HIn.out _ HR11.out).mono ?_
              rintro e w12 ⟨rfl, HR12, HB12⟩
              have HD12 : Hid (Below w.heap.size w w12) := HD11.out.trans (HB12.out.below hq HD11.out.size)
              clear HB12 HR11 HD11
              go_wp2_with fail
              refine (HTe.out _ HR12.out).mono ?_
              rintro e w13 ⟨rfl, HR13, HB13⟩
              have HD13 : Hid (Below w.heap.size w w13) := HD12.out.trans (HB13.out.below hq HD12.out.size)
              clear HB13 HR12 HD12
              go_wp2_with fail
              refine (HBo.out _ HR13.out).mono ?_
              rintro e w14 ⟨rfl, HR14, HB14⟩
              have HD14 : Hid (Below w.heap.size w w14) := HD13.out.trans (HB14.out.below hq HD13.out.size)
              clear HB14 HR13 HD13
              go_wp2_with fail
              refine (HCo.out _ HR14.out).mono ?_
              rintro e w15 ⟨rfl, HR15, HB15⟩
              have HD15 : Hid (Below w.heap.size w w15) := HD14.out.trans (HB15.out.below hq HD14.out.size)
              clear HB15 HR14 HD14
              go_wp2_with fail
              refine (HIs.out _ HR15.out).mono ?_
              rintro e w16 ⟨ra, rc, rfl, HR16, HB16⟩
              have HD16 : Hid (Below w.heap.size w w16) := HD15.out.trans (HB16.out.below hq HD15.out.size)
              clear HB16 HR15 HD15
              go_wp2_with fail
              refine (HEn.out _ HR16.out).mono ?_
              rintro e w17 ⟨rfl, HR17, HB17⟩
              have HD17 : Hid (Below w.heap.size w w17) := HD16.out.trans (HB17.out.below hq HD16.out.size)
              clear HB17 HR16 HD16
              go_wp2_with fail
              refine (HErr.out _ HR17.out).mono ?_
              rintro e wz ⟨rfl, rfl⟩
              go_wp2_with fail
              refine (HAt.out _ HR17.out).mono ?_
              rintro e wz ⟨rfl, rfl⟩
              go_wp2_with fail
              exact ⟨⟨j + 1, by go_num, by omega, by omega, HR17.out, HD17.out⟩, by simp [Lib.intOf]; omega⟩
            · have hjd : ((j : Int) < (n2 : Int) ∧ ¬ (j : Int) < 30) ∨ ¬ (j : Int) < (n2 : Int) := by omega
              clear hgo
              rcases hjd with ⟨hjz, hj3z⟩ | hjz
              · go_wp2_with fail
                refine (HA.out _).mono ?_
                rintro e w5 ⟨rfl, hb5⟩
                have HB5 : Hid (Below w.heap.size w w5) := HD9.out.trans (hb5.mono HD9.out.size)
                clear hb5
                go_wp2_with fail
                go_ret
                exact BB.mk rfl HB5.out
              · go_wp2_with fail
                refine (HA.out _).mono ?_
                rintro e w5 ⟨rfl, hb5⟩
                have HB5 : Hid (Below w.heap.size w w5) := HD9.out.trans (hb5.mono HD9.out.size)
                clear hb5
                go_wp2_with fail
                go_ret
                exact BB.mk rfl HB5.out
  · have hsz : (6000 : Int) < (s.size : Int) := by omega
    go_enter Try.func7, Try.ntmps7
    go_wp2_with fail
    refine HN.out.mono ?_
    rintro e w1 ⟨q, rfl, hq, HR1, HB1⟩
    clear HN
    go_wp2_with fail
    refine (HA.out _).mono ?_
    rintro e w2 ⟨rfl, hb2⟩
    have HB2 : Hid (Below w.heap.size w w2) := HB1.out.trans (hb2.mono HB1.out.size)
    clear hb2
    go_wp2_with fail
    go_ret
    exact BB.mk rfl HB2.out
end Go.Proofs.Ytgdoeflnfcjefaa
