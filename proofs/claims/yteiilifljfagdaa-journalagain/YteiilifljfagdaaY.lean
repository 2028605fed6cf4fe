/- Law Again. -/
import Derived.Test.YteiilifljfagdaaW
import Derived.WalkKit
import Derived.ProofKit
import Derived.Handy
import Derived.WalkLawsBesides
import Derived.WalkSpells
import Derived.BigQuiet
import Derived.BigCall
import Derived.Deep.QuietTactic
import Derived.Deep.Light
import Derived.Deep.OwnRows
import Derived.Laws.AppendOwnNone
import Derived.Laws.Strings3
import Derived.Laws.RangeAny
import Derived.Deep.RegionWith
import Derived.Lib.BitFns
import Derived.Lib.Walk
import Derived.Lib.Strings
import Derived.Lib.OthersKept
import Derived.Deep.CutBlock
import Derived.Deep.DeepCutAuto
import Derived.Deep.LoopGhost
import Derived.Deep.RegionHeld3
import Derived.Lib.SmallJoins
import Derived.Maps.AppendAt
import Derived.Laws.IdiomStrings
import Derived.Lib.AppendZeros
import Derived.Deep.WholeRow
import Derived.Laws.BitsAllLaws
import Derived.Lib.ConvBytes
import Derived.Deep.RegionLaw
namespace Go.Proofs.Yteiilifljfagdaa
open Go.RowKit
set_option linter.unusedVariables false
set_option linter.unusedSimpArgs false
theorem crs_file {S : St} {f g a : Nat} {s : List UInt8} {cs : List (List UInt8)} (h : Run S f g a s cs) (K : Nat → Int) : fl (crs S K) f = fl S f := by rw [(h.crash K).all, h.all]
theorem crs_nil {S : St} (h : fl S 1 = []) (K : Nat → Int) : fl (crs S K) 1 = [] := by rw [fl_crs, h, List.take_nil]
/-- Read of one of the first two files -/
theorem fread {B p : Nat} {w : World} {S : St} {V : Nat → Value} (hd : Dk B w p S V) (hg : S.gone = false) (i : Nat) (hi : i ≤ 1) (b : ByteArray) (hb : S.f i = b) : Calls Try.prog 14 #[.pointer (some ⟨p, 0, none⟩), .int .i64 i] w fun e w' => e = .returned (.tuple #[.string b, .int .i64 0]) ∧ w = w' := by
  have := dread B p S V w hd i
  have e1 : chk S i = 0 := chk_on hg hi
  unfold drd at this
  rw [e1, if_pos rfl, Int.toNat_natCast, hb] at this
  exact this
set_option maxHeartbeats 8000000 in
set_option maxRecDepth 100000 in
theorem lagain (t : ByteArray) (l0 : List ByteArray) (a0 : Option Addr) (c0 : Nat) (K : Nat → Int) (hK : ∀ j, -9223372036854775808 ≤ K j ∧ K j ≤ 9223372036854775807) (w : World) (h0 : Strs w a0 l0) (htz : t.size ≤ 140737488355328) :
    Calls Try.prog 5 #[.string t, .slice a0 l0.length c0, .agg (kcells K)] w (BB true w) := by
  have HS0 : Hid (Strs w a0 l0) := h0
  have hl0 := h0.len
  have HK : Hid (∀ j, -9223372036854775808 ≤ K j ∧ K j ≤ 9223372036854775807) := hK
  clear h0 hK
  obtain ⟨wA, hwA⟩ : ∃ wA, wA = w.alloc (.cells (kcells K) 41) := ⟨_, rfl⟩
  have HBA : Hid (Below w.heap.size w wA) := by rw [hwA]; exact below_new w _
  have HAK : Hid (wA.heap[w.heap.size]? = some (.cells (kcells K) 41 (0, 0))) := by rw [hwA]; exact heap_alloc_new w _
  have HSA : Hid (Strs wA a0 l0) := HS0.out.below HBA.out
  have HWA : Hid (wA = w.alloc (.cells (kcells K) 41)) := hwA
  have HM0 : Hid (Calls Try.prog 30 #[.slice a0 l0.length c0] wA (SmP l0 wA)) := rsmall l0 a0 c0 wA HSA.out
  obtain ⟨B, hB⟩ : ∃ B, B = wA.heap.size := ⟨_, rfl⟩
  have HBE : Hid (B = wA.heap.size) := hB
  have HNw : Hid (Calls Try.prog 9 #[] wA fun e w' => e = .returned (.pointer (some ⟨B, 0, none⟩)) ∧ (∃ V, Hid (Dk B w' B new V)) ∧ Hid (Below B wA w')) := fnew wA B hB
  clear hwA hB HS0
  go_enter Try.func5, Try.ntmps5
  go_upto_region 1 with fail
  rw [← HWA.out]
  clear HWA
  have HZ : Hid (∀ w', Below B wA w' → w'.cell? ⟨w.heap.size, 0, none⟩ = some (.int .i64 (K 0)) ∧ w'.cell? ⟨w.heap.size, 1, none⟩ = some (.int .i64 (K 1)) ∧ w'.cell? ⟨w.heap.size, 2, none⟩ = some (.int .i64 (K 2)) ∧ w'.cell? ⟨w.heap.size, 3, none⟩ = some (.int .i64 (K 3)) ∧ Below w.heap.size w w') := by
    intro w' hb
    have hlt := (Array.getElem?_eq_some_iff.1 HAK.out).1
    have hbk : w'.heap[w.heap.size]? = some (.cells (kcells K) 41 (0, 0)) := (hb.block _ (by rw [HBE.out]; exact hlt)).trans HAK.out
    exact ⟨cell_of_row w' _ 0 _ 41 (0, 0) hbk, cell_of_row w' _ 1 _ 41 (0, 0) hbk, cell_of_row w' _ 2 _ 41 (0, 0) hbk, cell_of_row w' _ 3 _ 41 (0, 0) hbk, HBA.out.trans (hb.mono (by rw [HBE.out]; exact Nat.le_of_lt hlt))⟩
  have HEnd : Hid (∀ (w' : World) (c : Bool), c = true → Below B wA w' → BB true w (.returned (.bool c)) w') := fun w' c hc hb => BB.mk hc (HZ.out w' hb).2.2.2.2
  generalize w.heap.size = z at *
  by_cases ht : t.size ≤ 9000
  · have htz1 : ¬ (9000 : Int) < (t.size : Int) := by omega
    go_wp2_with fail
    refine HM0.out.mono ?_
    rintro e w1 ⟨g0, rfl, rfl, hg0⟩
    cases g0 with
    | false =>
      go_wp2_with fail
      refine (xawake _).mono ?_
      rintro e w1 ⟨rfl, hb⟩
      have HB : Hid (Below B wA w1) := by rw [HBE.out]; exact hb
      clear hb
      go_wp2_with fail
      go_ret
      exact HEnd.out _ _ rfl HB.out
    | true =>
      obtain ⟨n0, z0⟩ := hg0 rfl
      have HN : Hid (l0.length ≤ 100 ∧ tot l0 ≤ 20000) := ⟨n0, z0⟩
      clear hg0 n0 z0 HM0
      go_wp2_with fail
      refine HNw.out.mono ?_
      rintro e w1 ⟨rfl, ⟨V1, hd⟩, HB1⟩
      have hlz : (lay 1 0 t.data.toList).length ≤ 1048576 := by
        have e1 := lay_le 1 0 t.data.toList
        have e : t.data.toList.length = t.size := rfl
        omega
      have HF : Hid (Calls Try.prog 10 #[.pointer (some ⟨B, 0, none⟩), .string t] w1 (FfP B B t w1)) := fformat hd.out t hlz
      clear hd HNw hlz
      go_wp2_with fail
      refine HF.out.mono ?_
      rintro e w2 ⟨q, S2, V2, rfl, HL2, hl2', hf2, _, HO2⟩
      have HB2 : Hid (Below B wA w2) := HB1.out.trans hf2.out.1
      have HE2 : Hid (S2.lim < 0) := hl2'
      clear hl2' hf2 HB1 HF
      go_wp2_with fail
      go_loopw [10] (fun i wr => ∃ (k : Nat) (S : St) (V : Nat → Value) (v : Value), i = .int .i64 k ∧ k ≤ l0.length ∧ Hid (Lv B wr q B S V 0 1 0 t v (tk (l0.take k))) ∧ Hid (S.lim < 0) ∧ Hid (Below B wA wr) ∧ Hid (fl S 1 = [])) (fun i _ => l0.length - (Lib.intOf i).toNat)
      case atStart => exact ⟨0, S2, V2, .slice none 0 0, rfl, Nat.zero_le _, HL2, HE2, HB2, HO2⟩
      case round =>
        clear HL2 HE2 HB2 HO2
        obtain ⟨k, S, V, v, rfl, hk, HL, HE, HB, HO⟩ := hrel
        by_cases hkn : k < l0.length ∧ k < 30
        · obtain ⟨hkn, hk30⟩ := hkn
          have hkz : (k : Int) < (l0.length : Int) := by omega
          have hkz3 : (k : Int) < 30 := by omega
          obtain ⟨b, off, rfl, hbl, hce⟩ := HSA.out.at_ (by omega)
          have hc : wr.cell? ⟨b, off + k, none⟩ = some (.string l0[k]) := (HB.out.cell (by rw [HBE.out]; exact hbl)).trans (hce k hkn)
          by_cases h4 : l0[k].size ≤ 4096
          · have hky := tk_yes hkn h4
            have hz : (lay 1 0 t.data.toList).length + tot (tk (l0.take k)) + 12 * (tk (l0.take k)).length + (l0[k].size + 12) ≤ 1048576 := by
              have e1 := tk_tot (l0.take k)
              have e2 := tk_len (l0.take k)
              have e3 := tot_le l0 k
              have e4 := HN.out
              have e5 := lay_le 1 0 t.data.toList
              have e6 : t.data.toList.length = t.size := rfl
              rw [List.length_take] at e2
              omega
            have HA : Hid (Calls Try.prog 26 #[.pointer (some ⟨q, 0, none⟩), .string l0[k]] wr fun e w' => e = .returned (.int .i64 0) ∧ ∃ S' V' v', Hid (Lv B w' q B S' V' 0 1 0 t v' (tk (l0.take (k + 1)))) ∧ Hid (S'.lim < 0) ∧ Hid (Below B wr w') ∧ Hid (fl S' 1 = [])) := by
              refine (fadd HL.out l0[k] h4 hz).mono fun e w' h => ?_
              obtain ⟨h1, S', V', v', h2, h3, h5, _, h7⟩ := FaP.ok2 HE.out h
              exact ⟨h1, S', V', v', by rw [hky]; exact h2, h3, h5.out.1, (h7.out 1 (by omega)).trans HO.out⟩
            generalize l0[k] = x at *
            clear hky hz hce h4 HL HE HO
            go_wp2_with fail
            refine HA.out.mono ?_
            rintro e w3 ⟨rfl, S3, V3, v3, HL3, HE3, hb3, HO3⟩
            have HB3 : Hid (Below B wA w3) := HB.out.trans hb3.out
            clear hb3 HA
            go_wp2_with fail
            exact ⟨⟨k + 1, S3, V3, v3, by go_num, by omega, HL3, HE3, HB3, HO3⟩, by simp [Lib.intOf]; omega⟩
          · have hky := tk_no hkn h4
            have HA : Hid (Calls Try.prog 26 #[.pointer (some ⟨q, 0, none⟩), .string l0[k]] wr fun e w' => e = .returned (.int .i64 2) ∧ Below wr.heap.size wr w') := xadd_long B q B 0 1 0 t v _ wr HL.out.j l0[k] h4
            rw [← hky] at HL
            generalize l0[k] = x at *
            clear hky hce h4
            go_wp2_with fail
            refine HA.out.mono ?_
            rintro e w3 ⟨rfl, hb3⟩
            have HB3 : Hid (Below B wA w3) := HB.out.trans (hb3.mono HL.out.d.bw)
            have HL3 : Hid (Lv B w3 q B S V 0 1 0 t v (tk (l0.take (k + 1)))) := HL.out.keep hb3
            clear hb3 HA HL
            go_wp2_with fail
            exact ⟨⟨k + 1, S, V, v, by go_num, by omega, HL3, HE, HB3, HO⟩, by simp [Lib.intOf]; omega⟩
        · have HG : Hid ((k : Int) < (l0.length : Int) → ¬ (k : Int) < 30) := by
            intro h1 h2
            exact hkn ⟨by omega, by omega⟩
          clear hkn
          generalize tk (l0.take k) = cs at *
          have hA0 : Hid (∃ A b1, S.f 0 = A ∧ S.f 1 = b1) := ⟨_, _, rfl, rfl⟩
          obtain ⟨A, b1, hA, hb1⟩ := hA0.out
          have HR0 : Hid (Calls Try.prog 14 #[.pointer (some ⟨B, 0, none⟩), .int .i64 0] wr fun e w' => e = .returned (.tuple #[.string A, .int .i64 0]) ∧ wr = w') := fread HL.out.d HL.out.r.on 0 (by omega) A hA
          have HR1 : Hid (Calls Try.prog 14 #[.pointer (some ⟨B, 0, none⟩), .int .i64 1] wr fun e w' => e = .returned (.tuple #[.string b1, .int .i64 0]) ∧ wr = w') := fread HL.out.d HL.out.r.on 1 (by omega) b1 hb1
          have HF0 : Hid ((crs S K).f 0 = A ∧ (crs S K).f 1 = b1) := by
            refine ⟨(ba_ext (crs_file HL.out.r K)).trans hA, ?_⟩
            rw [← hb1]
            refine ba_ext ?_
            have e1 := crs_nil HO.out K
            have e2 := HO.out
            unfold fl at e1 e2
            rw [e1, e2]
          have HCr : Hid (Calls Try.prog 27 #[.pointer (some ⟨B, 0, none⟩), .agg #[.int .i64 (K 0), .int .i64 (K 1), .int .i64 (K 2), .int .i64 (K 3)]] wr fun e w' => e = .returned (.tuple #[]) ∧ ∃ V', Hid (Dk B w' B (crs S K) V') ∧ Hid (Fr B B wr w')) := fcrash HL.out.d HL.out.r.disk K HK.out
          have HRn : Hid (Run (crs S K) 0 1 0 t.data.toList (ls cs)) := HL.out.r.crash _
          obtain ⟨y0, y1, y2, y3, _⟩ := HZ.out wr HB.out
          clear hA hb1 hA0 HO HE hk HZ HSA
          have fin : Hid (∀ _ : True, True) := fun _ => trivial
          clear fin
          by_cases hk1 : (k : Int) < (l0.length : Int)
          · have hk2 := HG.out hk1
            clear HG
            go_wp2_with fail
            refine HR0.out.mono ?_
            rintro e w3 ⟨rfl, rfl⟩
            go_wp2_with fail
            refine HR1.out.mono ?_
            rintro e w3 ⟨rfl, rfl⟩
            go_wp2_with fail
            refine HCr.out.mono ?_
            rintro e w3 ⟨rfl, V3, hd3, hf3⟩
            have HB3 : Hid (Below B wA w3) := HB.out.trans hf3.out.1
            have HJ3 : Hid (Jm B w3 q B false 0 1 0 t v cs) := HL.out.j.fr HL.out.d hf3.out
            have HMn : Hid (cs.length ≤ 1048576 ∧ t.size ≤ 1048576 ∧ ∀ c ∈ cs, c.size ≤ 1048576) := HL.out.many
            have HOp : Hid (Calls Try.prog 28 #[.pointer (some ⟨B, 0, none⟩)] w3 (FoP B B (crs S K) 0 1 0 t cs w3)) := fopen hd3.out HRn.out (show (-1 : Int) < 0 by decide)
            have HD3 : Hid (Dk B w3 B (crs S K) V3) := hd3.out
            clear hd3 hf3 HCr HRn HL HB HR0 HR1
            go_wp2_with fail
            refine HOp.out.mono ?_
            rintro e w4 ⟨q4, S4, V4, v4, rfl, HL4, _, hf4, hff, _, _⟩
            have HB4 : Hid (Below B wA w4) := HB3.out.trans hf4.out.1
            have HJ4 : Hid (Jm B w4 q B false 0 1 0 t v cs) := HJ3.out.fr HD3.out hf4.out
            have HR0 : Hid (Calls Try.prog 14 #[.pointer (some ⟨B, 0, none⟩), .int .i64 0] w4 fun e w' => e = .returned (.tuple #[.string A, .int .i64 0]) ∧ w4 = w') := fread HL4.out.d HL4.out.r.on 0 (by omega) A ((hff.out 0).trans HF0.out.1)
            have HR1 : Hid (Calls Try.prog 14 #[.pointer (some ⟨B, 0, none⟩), .int .i64 1] w4 fun e w' => e = .returned (.tuple #[.string b1, .int .i64 0]) ∧ w4 = w') := fread HL4.out.d HL4.out.r.on 1 (by omega) b1 ((hff.out 1).trans HF0.out.2)
            clear hf4 hff HOp HD3 HB3 HJ3 HF0
            have hee : (t.toList == t.toList) = true := by simp
            have heA : (A.toList == A.toList) = true := by simp
            have heb : (b1.toList == b1.toList) = true := by simp
            go_wp2_with fail
            refine HR0.out.mono ?_
            rintro e w5 ⟨rfl, rfl⟩
            go_wp2_with fail
            refine HR1.out.mono ?_
            rintro e w5 ⟨rfl, rfl⟩
            go_wp2_with fail
            refine (xState HL4.out.j HMn.out.2.1).mono ?_
            rintro e w5 ⟨rfl, hb5⟩
            have HB5 : Hid (Below B wA w5) := HB4.out.trans (hb5.mono HL4.out.d.bw)
            have HL5 : Hid (Lv B w5 q4 B S4 V4 0 1 0 t v4 cs) := HL4.out.keep hb5
            have HJ5 : Hid (Jm B w5 q B false 0 1 0 t v cs) := HJ4.out.keep hb5
            clear hb5 HB4 HL4 HJ4 HR0 HR1
            go_wp2_with fail
            refine (xState HJ5.out HMn.out.2.1).mono ?_
            rintro e w6 ⟨rfl, hb6⟩
            have HB6 : Hid (Below B wA w6) := HB5.out.trans (hb6.mono HL5.out.d.bw)
            have HL6 : Hid (Lv B w6 q4 B S4 V4 0 1 0 t v4 cs) := HL5.out.keep hb6
            have HJ6 : Hid (Jm B w6 q B false 0 1 0 t v cs) := HJ5.out.keep hb6
            clear hb6 HB5 HL5 HJ5
            go_wp2_with fail
            refine (xCommands HL6.out.j HMn.out.1 HMn.out.2.2).mono ?_
            rintro e w7 ⟨v7, rfl, ho7, hb7⟩
            have HB7 : Hid (Below B wA w7) := HB6.out.trans (hb7.out.mono HL6.out.d.bw)
            have HL7 : Hid (Lv B w7 q4 B S4 V4 0 1 0 t v4 cs) := HL6.out.keep hb7.out
            have HJ7 : Hid (Jm B w7 q B false 0 1 0 t v cs) := HJ6.out.keep hb7.out
            clear hb7 HB6 HL6 HJ6
            obtain ⟨x7, c7, rfl, hs7⟩ := own_strs ho7.out HMn.out.1 HMn.out.2.2
            have HS7 : Hid (Strs w7 x7 cs) := hs7
            clear ho7 hs7
            go_wp2_with fail
            refine (xCommands HJ7.out HMn.out.1 HMn.out.2.2).mono ?_
            rintro e w8 ⟨v8, rfl, ho8, hb8⟩
            have HB8 : Hid (Below B wA w8) := HB7.out.trans (hb8.out.mono HL7.out.d.bw)
            have HL8 : Hid (Lv B w8 q4 B S4 V4 0 1 0 t v4 cs) := HL7.out.keep hb8.out
            have HJ8 : Hid (Jm B w8 q B false 0 1 0 t v cs) := HJ7.out.keep hb8.out
            obtain ⟨x8, c8, rfl, hs8⟩ := own_strs ho8.out HMn.out.1 HMn.out.2.2
            have HTx : Hid (Calls Try.prog 18 #[.slice x7 cs.length c7, .slice x8 cs.length c8] w8 (BB true w8)) := rtexts cs x7 x8 c7 c8 w8 (HS7.out.below hb8.out) hs8
            clear hb8 HB7 HL7 HJ7 ho8 hs8 HS7
            go_wp2_with fail
            refine HTx.out.mono ?_
            rintro e w9 ⟨rfl, hb9⟩
            have HB9 : Hid (Below B wA w9) := HB8.out.trans (hb9.mono HL8.out.d.bw)
            have HL9 : Hid (Lv B w9 q4 B S4 V4 0 1 0 t v4 cs) := HL8.out.keep hb9
            have HJ9 : Hid (Jm B w9 q B false 0 1 0 t v cs) := HJ8.out.keep hb9
            clear hb9 HB8 HL8 HJ8 HTx
            have hsq : (((0 : Nat) : Int) + (cs.length : Int) == ((0 : Nat) : Int) + (cs.length : Int)) = true := by simp
            have hsq2 : ((cs.length : Int) == (cs.length : Int)) = true := by simp
            go_wp2_with fail
            refine (xSeq HL9.out.j (by omega) HMn.out.1).mono ?_
            rintro e w10 ⟨rfl, hb10⟩
            have HB10 : Hid (Below B wA w10) := HB9.out.trans (hb10.mono HL9.out.d.bw)
            have HJ10 : Hid (Jm B w10 q B false 0 1 0 t v cs) := HJ9.out.keep hb10
            have HBw : Hid (B ≤ w10.heap.size) := by rw [HBE.out]; exact HB10.out.size
            clear hb10 HB9 HL9 HJ9
            go_wp2_with fail
            refine (xSeq HJ10.out (by omega) HMn.out.1).mono ?_
            rintro e w11 ⟨rfl, hb11⟩
            have HB11 : Hid (Below B wA w11) := HB10.out.trans (hb11.mono HBw.out)
            have HBw2 : Hid (B ≤ w11.heap.size) := by rw [HBE.out]; exact HB11.out.size
            clear hb11 HB10 HJ10
            go_wp2_with fail
            refine (xawake _).mono ?_
            rintro e w12 ⟨rfl, hb12⟩
            have HB12 : Hid (Below B wA w12) := HB11.out.trans (hb12.mono HBw2.out)
            clear hb12
            go_wp2_with fail
            go_ret
            exact HEnd.out _ _ rfl HB12.out
          · clear HG
            go_wp2_with fail
            refine HR0.out.mono ?_
            rintro e w3 ⟨rfl, rfl⟩
            go_wp2_with fail
            refine HR1.out.mono ?_
            rintro e w3 ⟨rfl, rfl⟩
            go_wp2_with fail
            refine HCr.out.mono ?_
            rintro e w3 ⟨rfl, V3, hd3, hf3⟩
            have HB3 : Hid (Below B wA w3) := HB.out.trans hf3.out.1
            have HJ3 : Hid (Jm B w3 q B false 0 1 0 t v cs) := HL.out.j.fr HL.out.d hf3.out
            have HMn : Hid (cs.length ≤ 1048576 ∧ t.size ≤ 1048576 ∧ ∀ c ∈ cs, c.size ≤ 1048576) := HL.out.many
            have HOp : Hid (Calls Try.prog 28 #[.pointer (some ⟨B, 0, none⟩)] w3 (FoP B B (crs S K) 0 1 0 t cs w3)) := fopen hd3.out HRn.out (show (-1 : Int) < 0 by decide)
            have HD3 : Hid (Dk B w3 B (crs S K) V3) := hd3.out
            clear hd3 hf3 HCr HRn HL HB HR0 HR1
            go_wp2_with fail
            refine HOp.out.mono ?_
            rintro e w4 ⟨q4, S4, V4, v4, rfl, HL4, _, hf4, hff, _, _⟩
            have HB4 : Hid (Below B wA w4) := HB3.out.trans hf4.out.1
            have HJ4 : Hid (Jm B w4 q B false 0 1 0 t v cs) := HJ3.out.fr HD3.out hf4.out
            have HR0 : Hid (Calls Try.prog 14 #[.pointer (some ⟨B, 0, none⟩), .int .i64 0] w4 fun e w' => e = .returned (.tuple #[.string A, .int .i64 0]) ∧ w4 = w') := fread HL4.out.d HL4.out.r.on 0 (by omega) A ((hff.out 0).trans HF0.out.1)
            have HR1 : Hid (Calls Try.prog 14 #[.pointer (some ⟨B, 0, none⟩), .int .i64 1] w4 fun e w' => e = .returned (.tuple #[.string b1, .int .i64 0]) ∧ w4 = w') := fread HL4.out.d HL4.out.r.on 1 (by omega) b1 ((hff.out 1).trans HF0.out.2)
            clear hf4 hff HOp HD3 HB3 HJ3 HF0
            have hee : (t.toList == t.toList) = true := by simp
            have heA : (A.toList == A.toList) = true := by simp
            have heb : (b1.toList == b1.toList) = true := by simp
            go_wp2_with fail
            refine HR0.out.mono ?_
            rintro e w5 ⟨rfl, rfl⟩
            go_wp2_with fail
            refine HR1.out.mono ?_
            rintro e w5 ⟨rfl, rfl⟩
            go_wp2_with fail
            refine (xState HL4.out.j HMn.out.2.1).mono ?_
            rintro e w5 ⟨rfl, hb5⟩
            have HB5 : Hid (Below B wA w5) := HB4.out.trans (hb5.mono HL4.out.d.bw)
            have HL5 : Hid (Lv B w5 q4 B S4 V4 0 1 0 t v4 cs) := HL4.out.keep hb5
            have HJ5 : Hid (Jm B w5 q B false 0 1 0 t v cs) := HJ4.out.keep hb5
            clear hb5 HB4 HL4 HJ4 HR0 HR1
            go_wp2_with fail
            refine (xState HJ5.out HMn.out.2.1).mono ?_
            rintro e w6 ⟨rfl, hb6⟩
            have HB6 : Hid (Below B wA w6) := HB5.out.trans (hb6.mono HL5.out.d.bw)
            have HL6 : Hid (Lv B w6 q4 B S4 V4 0 1 0 t v4 cs) := HL5.out.keep hb6
            have HJ6 : Hid (Jm B w6 q B false 0 1 0 t v cs) := HJ5.out.keep hb6
            clear hb6 HB5 HL5 HJ5
            go_wp2_with fail
            refine (xCommands HL6.out.j HMn.out.1 HMn.out.2.2).mono ?_
            rintro e w7 ⟨v7, rfl, ho7, hb7⟩
            have HB7 : Hid (Below B wA w7) := HB6.out.trans (hb7.out.mono HL6.out.d.bw)
            have HL7 : Hid (Lv B w7 q4 B S4 V4 0 1 0 t v4 cs) := HL6.out.keep hb7.out
            have HJ7 : Hid (Jm B w7 q B false 0 1 0 t v cs) := HJ6.out.keep hb7.out
            clear hb7 HB6 HL6 HJ6
            obtain ⟨x7, c7, rfl, hs7⟩ := own_strs ho7.out HMn.out.1 HMn.out.2.2
            have HS7 : Hid (Strs w7 x7 cs) := hs7
            clear ho7 hs7
            go_wp2_with fail
            refine (xCommands HJ7.out HMn.out.1 HMn.out.2.2).mono ?_
            rintro e w8 ⟨v8, rfl, ho8, hb8⟩
            have HB8 : Hid (Below B wA w8) := HB7.out.trans (hb8.out.mono HL7.out.d.bw)
            have HL8 : Hid (Lv B w8 q4 B S4 V4 0 1 0 t v4 cs) := HL7.out.keep hb8.out
            have HJ8 : Hid (Jm B w8 q B false 0 1 0 t v cs) := HJ7.out.keep hb8.out
            obtain ⟨x8, c8, rfl, hs8⟩ := own_strs ho8.out HMn.out.1 HMn.out.2.2
            have HTx : Hid (Calls Try.prog 18 #[.slice x7 cs.length c7, .slice x8 cs.length c8] w8 (BB true w8)) := rtexts cs x7 x8 c7 c8 w8 (HS7.out.below hb8.out) hs8
            clear hb8 HB7 HL7 HJ7 ho8 hs8 HS7
            go_wp2_with fail
            refine HTx.out.mono ?_
            rintro e w9 ⟨rfl, hb9⟩
            have HB9 : Hid (Below B wA w9) := HB8.out.trans (hb9.mono HL8.out.d.bw)
            have HL9 : Hid (Lv B w9 q4 B S4 V4 0 1 0 t v4 cs) := HL8.out.keep hb9
            have HJ9 : Hid (Jm B w9 q B false 0 1 0 t v cs) := HJ8.out.keep hb9
            clear hb9 HB8 HL8 HJ8 HTx
            have hsq : (((0 : Nat) : Int) + (cs.length : Int) == ((0 : Nat) : Int) + (cs.length : Int)) = true := by simp
            have hsq2 : ((cs.length : Int) == (cs.length : Int)) = true := by simp
            go_wp2_with fail
            refine (xSeq HL9.out.j (by omega) HMn.out.1).mono ?_
            rintro e w10 ⟨rfl, hb10⟩
            have HB10 : Hid (Below B wA w10) := HB9.out.trans (hb10.mono HL9.out.d.bw)
            have HJ10 : Hid (Jm B w10 q B false 0 1 0 t v cs) := HJ9.out.keep hb10
            have HBw : Hid (B ≤ w10.heap.size) := by rw [HBE.out]; exact HB10.out.size
            clear hb10 HB9 HL9 HJ9
            go_wp2_with fail
            refine (xSeq HJ10.out (by omega) HMn.out.1).mono ?_
            rintro e w11 ⟨rfl, hb11⟩
            have HB11 : Hid (Below B wA w11) := HB10.out.trans (hb11.mono HBw.out)
            have HBw2 : Hid (B ≤ w11.heap.size) := by rw [HBE.out]; exact HB11.out.size
            clear hb11 HB10 HJ10
            go_wp2_with fail
            refine (xawake _).mono ?_
            rintro e w12 ⟨rfl, hb12⟩
            have HB12 : Hid (Below B wA w12) := HB11.out.trans (hb12.mono HBw2.out)
            clear hb12
            go_wp2_with fail
            go_ret
            exact HEnd.out _ _ rfl HB12.out
  · have htz1 : (9000 : Int) < (t.size : Int) := by omega
    go_wp2_with fail
    refine (xawake _).mono ?_
    rintro e w1 ⟨rfl, hb⟩
    have HB : Hid (Below B wA w1) := by rw [HBE.out]; exact hb
    clear hb
    go_wp2_with fail
    go_ret
    exact HEnd.out _ _ rfl HB.out
end Go.Proofs.Yteiilifljfagdaa
