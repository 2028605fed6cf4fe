/- Law Turns. -/
import Derived.Test.YteiilifljfagdaaV
import Derived.WalkKit
import Derived.ProofKit
import Derived.Handy
import Derived.WalkLawsBesides
import Derived.WalkSpells
import Derived.BigQuiet
import Derived.BigCall
import Derived.Deep.QuietTactic
import Derived.Deep.Light
import Derived.Deep.OwnRows
import Derived.Laws.AppendOwnNone
import Derived.Laws.Strings3
import Derived.Laws.RangeAny
import Derived.Deep.RegionWith
import Derived.Lib.BitFns
import Derived.Lib.Walk
import Derived.Lib.Strings
import Derived.Lib.OthersKept
import Derived.Deep.CutBlock
import Derived.Deep.DeepCutAuto
import Derived.Deep.LoopGhost
import Derived.Deep.RegionHeld3
import Derived.Lib.SmallJoins
import Derived.Maps.AppendAt
import Derived.Laws.IdiomStrings
import Derived.Lib.AppendZeros
import Derived.Deep.WholeRow
import Derived.Laws.BitsAllLaws
import Derived.Lib.ConvBytes
import Derived.Deep.RegionLaw
namespace Go.Proofs.Yteiilifljfagdaa
open Go.RowKit
set_option linter.unusedVariables false
set_option linter.unusedSimpArgs false
theorem FaP.ok2 {B p q f g a : Nat} {S : St} {s : ByteArray} {v : Value} {cs : List ByteArray} {c : ByteArray} {w w' : World} {e : Ending} (hl : S.lim < 0) (h : FaP B p q f g a S s v cs c w e w') :
    e = .returned (.int .i64 0) ∧ ∃ S' V' v', Hid (Lv B w' q p S' V' f g a s v' (cs ++ [c])) ∧ Hid (S'.lim < 0) ∧ Hid (Jf B p q v.ownBlock w w') ∧ Hid (v'.ownBlock = v.ownBlock ∨ ∃ k, v'.ownBlock = some k ∧ w.heap.size ≤ k) ∧ Hid (∀ o, o ≠ f → fl S' o = fl S o) := by
  obtain ⟨x, S', V', rfl, hd, hf, h1⟩ := h
  rcases h1 with ⟨rfl, h2, h0, v', h3, h4⟩ | ⟨_, h2, _⟩
  · exact ⟨rfl, S', V', v', h3, by unfold Hid; omega, hf, h4, h0⟩
  · omega
theorem Strs.low {B : Nat} {w w' : World} {a : Option Addr} {l : List ByteArray} (h : Strs w a l) (hb : Below B w w') (hB : B = w.heap.size) : Strs w' a l := h.below (hB ▸ hb)
def bgn : ByteArray := ⟨#[98, 101, 103, 105, 110]⟩
theorem lay_bgn : (lay 1 0 bgn.data.toList).length = 50 := by decide
theorem own_strs {w : World} {B : Nat} {v : Value} {xs : List ByteArray} (h : w.ownsRow B 9 1 v xs.length (scells xs)) (h1 : xs.length ≤ 1048576) (h2 : ∀ s ∈ xs, s.size ≤ 1048576) : ∃ a cap, v = .slice a xs.length cap ∧ Strs w a xs :=
  Strs.of_owns h (by omega) fun s hs => by have := h2 s hs; omega
set_option maxHeartbeats 8000000 in
set_option maxRecDepth 100000 in
theorem lturns (l0 l2 : List ByteArray) (a0 a2 : Option Addr) (c0 c2 : Nat) (t : ByteArray) (w : World) (h0 : Strs w a0 l0) (h2 : Strs w a2 l2) (htz : t.size ≤ 140737488355328) :
    Calls Try.prog 6 #[.slice a0 l0.length c0, .string t, .slice a2 l2.length c2] w (BB true w) := by
  have HS0 : Hid (Strs w a0 l0) := h0
  have HS2 : Hid (Strs w a2 l2) := h2
  have hl0 := h0.len
  have hl2 := h2.len
  clear h0 h2
  by_cases ht : t.size ≤ 20000
  · have htz1 : ¬ (20000 : Int) < (t.size : Int) := by omega
    have HM0 : Hid (Calls Try.prog 30 #[.slice a0 l0.length c0] w (SmP l0 w)) := rsmall l0 a0 c0 w HS0.out
    have HM2 : Hid (Calls Try.prog 30 #[.slice a2 l2.length c2] w (SmP l2 w)) := rsmall l2 a2 c2 w HS2.out
    go_enter Try.func6, Try.ntmps6
    go_wp2_with fail
    refine HM0.out.mono ?_
    rintro e w1 ⟨g0, rfl, rfl, hg0⟩
    cases g0 with
    | false =>
      go_wp2_with fail
      refine (xawake _).mono ?_
      rintro e w1 ⟨rfl, hb⟩
      have HB : Hid (Below w.heap.size w w1) := hb
      clear hb
      go_wp2_with fail
      go_ret
      exact BB.mk rfl HB.out
    | true =>
      obtain ⟨n0, z0⟩ := hg0 rfl
      go_wp2_with fail
      refine HM2.out.mono ?_
      rintro e w1 ⟨g2, rfl, rfl, hg2⟩
      cases g2 with
      | false =>
        go_wp2_with fail
        refine (xawake _).mono ?_
        rintro e w1 ⟨rfl, hb⟩
        have HB : Hid (Below w.heap.size w w1) := hb
        clear hb
        go_wp2_with fail
        go_ret
        exact BB.mk rfl HB.out
      | true =>
        obtain ⟨n2, z2⟩ := hg2 rfl
        have HN : Hid (l0.length ≤ 100 ∧ tot l0 ≤ 20000 ∧ l2.length ≤ 100 ∧ tot l2 ≤ 20000) := ⟨n0, z0, n2, z2⟩
        obtain ⟨B, hB⟩ : ∃ B, B = w.heap.size := ⟨_, rfl⟩
        have HBE : Hid (B = w.heap.size) := hB
        have HNw : Hid (Calls Try.prog 9 #[] w fun e w' => e = .returned (.pointer (some ⟨B, 0, none⟩)) ∧ (∃ V, Hid (Dk B w' B new V)) ∧ Hid (Below B w w')) := fnew w B hB
        clear hB hg0 hg2 n0 z0 z2 HM0 HM2
        go_wp2_with fail
        refine HNw.out.mono ?_
        rintro e w1 ⟨rfl, ⟨V1, hd⟩, HB1⟩
        have HF : Hid (Calls Try.prog 10 #[.pointer (some ⟨B, 0, none⟩), .string ⟨#[98, 101, 103, 105, 110]⟩] w1 (FfP B B bgn w1)) := fformat hd.out bgn (by decide)
        clear hd HNw
        go_wp2_with fail
        refine HF.out.mono ?_
        rintro e w2 ⟨q, S2, V2, rfl, HL2, hl2', hf2, _, _⟩
        have HB2 : Hid (Below B w w2) := HB1.out.trans hf2.out.1
        have HE2 : Hid (S2.lim < 0) := hl2'
        clear hl2' hf2 HB1 HF
        go_wp2_with fail
        go_loopw [10, 11] (fun m i wr => ∃ (k n : Nat) (S : St) (V : Nat → Value) (v : Value), i = .int .i64 k ∧ m = .int .i64 n ∧ k ≤ l0.length ∧ n ≤ 100 ∧ Hid (Lv B wr q B S V 0 1 0 bgn v (tk (l0.take k))) ∧ Hid (S.lim < 0) ∧ Hid (Below B w wr) ∧ Hid (n = (tk (l0.take k)).length)) (fun _ i _ => l0.length - (Lib.intOf i).toNat)
        case atStart => exact ⟨0, 0, S2, V2, .slice none 0 0, rfl, rfl, Nat.zero_le _, by omega, HL2, HE2, HB2, rfl⟩
        case round =>
          clear HL2 HE2 HB2
          obtain ⟨k, n, S, V, v, rfl, rfl, hk, hn, HL, HE, HB, HT⟩ := hrel
          by_cases hkn : k < l0.length
          · have hkz : (k : Int) < (l0.length : Int) := by omega
            obtain ⟨b, off, rfl, hbl, hce⟩ := HS0.out.at_ (by omega)
            have hc : wr.cell? ⟨b, off + k, none⟩ = some (.string l0[k]) := (HB.out.cell (by rw [HBE.out]; exact hbl)).trans (hce k hkn)
            by_cases h4 : l0[k].size ≤ 4096
            · have hky := tk_yes hkn h4
              have hz : (lay 1 0 bgn.data.toList).length + tot (tk (l0.take k)) + 12 * (tk (l0.take k)).length + (l0[k].size + 12) ≤ 1048576 := by
                have e1 := tk_tot (l0.take k)
                have e2 := tk_len (l0.take k)
                have e3 := tot_le l0 k
                have e4 := HN.out
                rw [List.length_take] at e2
                rw [lay_bgn]
                omega
              have HA : Hid (Calls Try.prog 26 #[.pointer (some ⟨q, 0, none⟩), .string l0[k]] wr fun e w' => e = .returned (.int .i64 0) ∧ ∃ S' V' v', Hid (Lv B w' q B S' V' 0 1 0 bgn v' (tk (l0.take (k + 1)))) ∧ Hid (S'.lim < 0) ∧ Hid (Below B wr w')) := by
                refine (fadd HL.out l0[k] h4 hz).mono fun e w' h => ?_
                obtain ⟨h1, S', V', v', h2, h3, h5⟩ := FaP.ok HE.out h
                exact ⟨h1, S', V', v', by rw [hky]; exact h2, h3, h5⟩
              have hn1 : n + 1 ≤ 100 := by
                have e1 := congrArg List.length hky
                rw [List.length_append, List.length_singleton] at e1
                have e2 := tk_len (l0.take (k + 1))
                rw [List.length_take] at e2
                have e3 := HN.out
                have e4 := HT.out
                omega
              have HT1 : Hid (n + 1 = (tk (l0.take (k + 1))).length) := by
                unfold Hid
                rw [hky, List.length_append, List.length_singleton, ← HT.out]
              generalize l0[k] = x at *
              clear hky hz hce h4 HT HL HE
              go_wp2_with fail
              refine HA.out.mono ?_
              rintro e w3 ⟨rfl, S3, V3, v3, HL3, HE3, hb3⟩
              have HB3 : Hid (Below B w w3) := HB.out.trans hb3.out
              clear hb3 HA
              go_wp2_with fail
              exact ⟨⟨k + 1, n + 1, S3, V3, v3, by go_num, by go_num, by omega, hn1, HL3, HE3, HB3, HT1⟩, by simp [Lib.intOf]; omega⟩
            · have hky := tk_no hkn h4
              have HA : Hid (Calls Try.prog 26 #[.pointer (some ⟨q, 0, none⟩), .string l0[k]] wr fun e w' => e = .returned (.int .i64 2) ∧ Below wr.heap.size wr w') := xadd_long B q B 0 1 0 bgn v _ wr HL.out.j l0[k] h4
              have HT1 : Hid (n = (tk (l0.take (k + 1))).length) := by unfold Hid; rw [hky]; exact HT.out
              rw [← hky] at HL
              generalize l0[k] = x at *
              clear hky hce h4 HT
              go_wp2_with fail
              refine HA.out.mono ?_
              rintro e w3 ⟨rfl, hb3⟩
              have HB3 : Hid (Below B w w3) := HB.out.trans (hb3.mono HL.out.d.bw)
              have HL3 : Hid (Lv B w3 q B S V 0 1 0 bgn v (tk (l0.take (k + 1)))) := HL.out.keep hb3
              clear hb3 HA HL
              go_wp2_with fail
              exact ⟨⟨k + 1, n, S, V, v, by go_num, rfl, by omega, hn, HL3, HE, HB3, HT1⟩, by simp [Lib.intOf]; omega⟩
          · have hkz : ¬ (k : Int) < (l0.length : Int) := by omega
            have htk : l0.take k = l0 := List.take_of_length_le (by omega)
            rw [htk] at HL HT
            clear htk
            have hfit : Fit (1 + 1) (0 + (tk l0).length) t.data.toList := by
              have e : t.data.toList.length = t.size := rfl
              have e2 := HT.out
              exact ⟨by omega, by omega, by omega, by omega⟩
            have hlz : (lay (1 + 1) (0 + (tk l0).length) t.data.toList).length ≤ 1048576 := by
              have e1 := lay_le (1 + 1) (0 + (tk l0).length) t.data.toList
              have e : t.data.toList.length = t.size := rfl
              omega
            have HTu : Hid (Calls Try.prog 24 #[.pointer (some ⟨q, 0, none⟩), .string t] wr fun e w' => e = .returned (.int .i64 0) ∧ ∃ S' V', Hid (Lv B w' q B S' V' 1 2 n t (.slice none 0 0) []) ∧ Hid (S'.lim < 0) ∧ Hid (Below B wr w')) := by
              refine (fturn HL.out t hfit hlz).mono fun e w' h => ?_
              obtain ⟨h1, S', V', h2, h3, h5⟩ := FtP.ok HE.out h
              refine ⟨h1, S', V', ?_, h3, h5⟩
              rw [HT.out]
              rw [Nat.zero_add] at h2
              exact h2
            clear hfit hlz HL HE HT
            go_wp2_with fail
            refine HTu.out.mono ?_
            rintro e w3 ⟨rfl, S3, V3, HL3, HE3, hb3⟩
            have HB3 : Hid (Below B w w3) := HB.out.trans hb3.out
            have HQ3 : Hid (Calls Try.prog 20 #[.pointer (some ⟨q, 0, none⟩)] w3 fun e w' => e = .returned (.int .i64 n) ∧ Below w3.heap.size w3 w') := by
              have := xSeq HL3.out.j (by omega) (by simp)
              unfold Hid
              simpa using this
            clear hb3 HTu HB
            have hnn : ((n : Int) != (n : Int)) = false := by simp
            go_wp2_with fail
            refine HQ3.out.mono ?_
            rintro e w4 ⟨rfl, hb4⟩
            have HB4 : Hid (Below B w w4) := HB3.out.trans (hb4.mono HL3.out.d.bw)
            have HL4 : Hid (Lv B w4 q B S3 V3 1 2 n t (.slice none 0 0) []) := HL3.out.keep hb4
            clear hb4 HQ3 HB3 HL3
            go_wp2_with fail
            refine (xCommands HL4.out.j (by simp) (fun c hc => by cases hc)).mono ?_
            rintro e w5 ⟨v5, rfl, ho5, hb5⟩
            obtain ⟨x5, c5, rfl⟩ := own_slice ho5.out
            have HB5 : Hid (Below B w w5) := HB4.out.trans (hb5.out.mono HL4.out.d.bw)
            have HL5 : Hid (Lv B w5 q B S3 V3 1 2 n t (.slice none 0 0) []) := HL4.out.keep hb5.out
            clear hb5 ho5 HB4 HL4
            go_wp2_with fail
            go_loopw [12, 13] (fun u i wr => ∃ (k : Nat) (S : St) (V : Nat → Value) (v : Value), i = .int .i64 k ∧ k ≤ l2.length ∧ Hid (Lv B wr q B S V 1 2 n t v (tk (l2.take k))) ∧ Hid (S.lim < 0) ∧ Hid (Below B w wr) ∧ Hid (wr.ownsRow B 9 1 u (tk (l2.take k)).length (scells (tk (l2.take k)))) ∧ Hid (∀ k, u.ownBlock = some k → v.ownBlock ≠ some k)) (fun _ i _ => l2.length - (Lib.intOf i).toNat)
            case atStart => exact ⟨0, S3, V3, .slice none 0 0, rfl, Nat.zero_le _, HL5, HE3, HB5, World.ownsRow_nil _ _ _ _, fun k hk => by cases hk⟩
            case round =>
              clear HL5 HE3 HB5
              obtain ⟨k, S, V, v, rfl, hk, HL, HE, HB, HO, HAp⟩ := hrel
              by_cases hkn : k < l2.length
              · have hkz : (k : Int) < (l2.length : Int) := by omega
                obtain ⟨b, off, rfl, hbl, hce⟩ := HS2.out.at_ (by omega)
                have hc : wr.cell? ⟨b, off + k, none⟩ = some (.string l2[k]) := (HB.out.cell (by rw [HBE.out]; exact hbl)).trans (hce k hkn)
                by_cases h4 : l2[k].size ≤ 4096
                · have hky := tk_yes hkn h4
                  have hz : (lay 2 n t.data.toList).length + tot (tk (l2.take k)) + 12 * (tk (l2.take k)).length + (l2[k].size + 12) ≤ 1048576 := by
                    have e1 := tk_tot (l2.take k)
                    have e2 := tk_len (l2.take k)
                    have e3 := tot_le l2 k
                    have e4 := HN.out
                    have e5 := lay_le 2 n t.data.toList
                    have e6 : t.data.toList.length = t.size := rfl
                    rw [List.length_take] at e2
                    omega
                  have HC : Hid (∀ w', Below B wr w' → w'.cell? ⟨b, off + k, none⟩ = some (.string l2[k])) := fun w' hb' => ((HB.out.trans hb').cell (by rw [HBE.out]; exact hbl)).trans (hce k hkn)
                  have HA : Hid (Calls Try.prog 26 #[.pointer (some ⟨q, 0, none⟩), .string l2[k]] wr fun e w' => e = .returned (.int .i64 0) ∧ Hid (Below B wr w') ∧ ∃ S' V' v' v2 w4, (Builtin.append_ #[35, 35] 35 #[u12, .slice (some ⟨w'.heap.size, 0, none⟩) 1 1]).run Try.prog (w'.alloc (.cells #[.string l2[k]] 9)) = .ok v2 w4 ∧ Hid (Lv B w4 q B S' V' 1 2 n t v' (tk (l2.take (k + 1)))) ∧ Hid (S'.lim < 0) ∧ Hid (Below B wr w4) ∧ Hid (w4.ownsRow B 9 1 v2 (tk (l2.take (k + 1))).length (scells (tk (l2.take (k + 1))))) ∧ Hid (∀ k, v2.ownBlock = some k → v'.ownBlock ≠ some k)) := by
                    refine (fadd HL.out l2[k] h4 hz).mono fun e w' h => ?_
                    obtain ⟨r1, S', V', v', r2, r3, r5, r6, _⟩ := FaP.ok2 HE.out h
                    have ho' := own_jf HL.out HO.out HAp.out r5.out
                    obtain ⟨v2, w4, q1, q2, q3, q4⟩ := app_one ho' r2.out.d.bw l2[k] (by have e2 := tk_len (l2.take k); rw [List.length_take] at e2; have := HN.out; omega)
                    have hne' : ∀ k, u12.ownBlock = some k → v'.ownBlock ≠ some k := by
                      intro j hj
                      rcases r6.out with e | ⟨m, e, hm⟩
                      · rw [e]; exact HAp.out j hj
                      · rw [e]
                        intro e2
                        injection e2 with e2
                        have := (HO.out.lt j hj).2
                        omega
                    have hla := r2.out.keep (below_new w' (.cells #[.string l2[k]] 9))
                    have hoa := own_keep ho' (below_new w' (.cells #[.string l2[k]] 9))
                    have hl4 := hla.grown9 hoa hne' q3
                    have hb4 : Below B wr w4 := (r5.out.1.alloc r2.out.d.bw _).grown q3 (by have := r2.out.d.bw; simp; omega) (fun j hj => (HO.out.lt j hj).1)
                    refine ⟨r1, r5.out.1, S', V', v', v2, w4, q1, by rw [hky]; exact hl4, r3, hb4, by rw [hky]; exact q2, ?_⟩
                    intro j hj
                    rcases q4 with e | e
                    · rw [e] at hj; exact hne' j hj
                    · rw [e] at hj
                      injection hj with hj
                      intro e2
                      have := (r2.out.j.own.lt j e2).2
                      omega
                  generalize l2[k] = x at *
                  clear hky hz hce h4 HL HE HO HAp
                  go_wp2_with fail
                  refine HA.out.mono ?_
                  rintro e w3 ⟨rfl, hb3, S3, V3, v3, v4, w4, hr, HL4, HE4, hb4, HO4, HAp4⟩
                  have hc3 := HC.out w3 hb3.out
                  have HB4 : Hid (Below B w w4) := HB.out.trans hb4.out
                  have HR : Hid _ := hr
                  clear hb3 hb4 HA hr HC hc
                  go_wp2_with (at_builtin; refine Lib.wpList_append_run _ rfl _ _ 35 35 rfl _ _ rfl rfl _ w4 HR.out ?_)
                  exact ⟨⟨k + 1, S3, V3, v3, by go_num, by omega, HL4, HE4, HB4, HO4, HAp4⟩, by simp [Lib.intOf]; omega⟩
                · have hky := tk_no hkn h4
                  have HA : Hid (Calls Try.prog 26 #[.pointer (some ⟨q, 0, none⟩), .string l2[k]] wr fun e w' => e = .returned (.int .i64 2) ∧ Below wr.heap.size wr w') := xadd_long B q B 1 2 n t v _ wr HL.out.j l2[k] h4
                  rw [← hky] at HL HO
                  generalize l2[k] = x at *
                  clear hky hce h4
                  go_wp2_with fail
                  refine HA.out.mono ?_
                  rintro e w3 ⟨rfl, hb3⟩
                  have HB3 : Hid (Below B w w3) := HB.out.trans (hb3.mono HL.out.d.bw)
                  have HL3 : Hid (Lv B w3 q B S V 1 2 n t v (tk (l2.take (k + 1)))) := HL.out.keep hb3
                  have HO3 : Hid (w3.ownsRow B 9 1 u12 (tk (l2.take (k + 1))).length (scells (tk (l2.take (k + 1))))) := own_keep HO.out hb3
                  clear hb3 HA HL HO
                  go_wp2_with fail
                  exact ⟨⟨k + 1, S, V, v, by go_num, by omega, HL3, HE, HB3, HO3, HAp⟩, by simp [Lib.intOf]; omega⟩
              · have hkz : ¬ (k : Int) < (l2.length : Int) := by omega
                have htk : l2.take k = l2 := List.take_of_length_le (by omega)
                rw [htk] at HL HO
                clear htk HAp
                have HCr : Hid (Calls Try.prog 27 #[.pointer (some ⟨B, 0, none⟩), .agg #[.int .i64 0, .int .i64 0, .int .i64 0, .int .i64 0]] wr fun e w' => e = .returned (.tuple #[]) ∧ ∃ V', Hid (Dk B w' B (crs S fun _ => 0) V') ∧ Hid (Fr B B wr w')) := fcrash HL.out.d HL.out.r.disk (fun _ => 0) (fun _ => ⟨by omega, by omega⟩)
                have HRn : Hid (Run (crs S fun _ => 0) 1 2 n t.data.toList (ls (tk l2))) := HL.out.r.crash _
                go_wp2_with fail
                refine HCr.out.mono ?_
                rintro e w3 ⟨rfl, V3, hd3, hf3⟩
                have HB3 : Hid (Below B w w3) := HB.out.trans hf3.out.1
                have HO3 : Hid (w3.ownsRow B 9 1 u12 (tk l2).length (scells (tk l2))) := own_fr HL.out.d HO.out hf3.out
                have HOp : Hid (Calls Try.prog 28 #[.pointer (some ⟨B, 0, none⟩)] w3 (FoP B B (crs S fun _ => 0) 1 2 n t (tk l2) w3)) := fopen hd3.out HRn.out (show (-1 : Int) < 0 by decide)
                have HD3 : Hid (Dk B w3 B (crs S fun _ => 0) V3) := hd3.out
                clear hd3 hf3 HCr HRn HL HO HB
                go_wp2_with fail
                refine HOp.out.mono ?_
                rintro e w4 ⟨q4, S4, V4, v4, rfl, HL4, _, hf4, _, _, _⟩
                have HB4 : Hid (Below B w w4) := HB3.out.trans hf4.out.1
                have HO4 : Hid (w4.ownsRow B 9 1 u12 (tk l2).length (scells (tk l2))) := own_fr HD3.out HO3.out hf4.out
                clear hf4 HOp HO3 HD3 HB3
                have hee : (t.toList == t.toList) = true := by simp
                go_wp2_with fail
                refine (xState HL4.out.j HL4.out.many.2.1).mono ?_
                rintro e w5 ⟨rfl, hb5⟩
                have HB5 : Hid (Below B w w5) := HB4.out.trans (hb5.mono HL4.out.d.bw)
                have HL5 : Hid (Lv B w5 q4 B S4 V4 1 2 n t v4 (tk l2)) := HL4.out.keep hb5
                have HO5 : Hid (w5.ownsRow B 9 1 u12 (tk l2).length (scells (tk l2))) := own_keep HO4.out hb5
                clear hb5 HB4 HL4 HO4
                go_wp2_with fail
                refine (xCommands HL5.out.j HL5.out.many.1 HL5.out.many.2.2).mono ?_
                rintro e w6 ⟨v6, rfl, ho6, hb6⟩
                obtain ⟨x6, c6, rfl, hs6⟩ := own_strs ho6.out HL5.out.many.1 HL5.out.many.2.2
                have HB6 : Hid (Below B w w6) := HB5.out.trans (hb6.out.mono HL5.out.d.bw)
                have HL6 : Hid (Lv B w6 q4 B S4 V4 1 2 n t v4 (tk l2)) := HL5.out.keep hb6.out
                have ho7 := own_keep HO5.out hb6.out
                obtain ⟨x7, c7, rfl, hs7⟩ := own_strs ho7 HL5.out.many.1 HL5.out.many.2.2
                have HTx : Hid (Calls Try.prog 18 #[.slice x6 (tk l2).length c6, .slice x7 (tk l2).length c7] w6 (BB true w6)) := rtexts (tk l2) x6 x7 c6 c7 w6 hs6 hs7
                have htl : (tk l2).length ≤ 100 := by have := tk_len l2; omega
                clear ho6 hb6 hs6 ho7 hs7 HB5 HL5 HO5
                have hnn2 : ((n : Int) + ((tk l2).length : Int) == (n : Int) + ((tk l2).length : Int)) = true := by simp
                go_wp2_with fail
                refine HTx.out.mono ?_
                rintro e w7 ⟨rfl, hb7⟩
                have HB7 : Hid (Below B w w7) := HB6.out.trans (hb7.mono HL6.out.d.bw)
                have HL7 : Hid (Lv B w7 q4 B S4 V4 1 2 n t v4 (tk l2)) := HL6.out.keep hb7
                clear hb7 HTx HB6 HL6
                go_wp2_with fail
                refine (xSeq HL7.out.j (by omega) HL7.out.many.1).mono ?_
                rintro e w8 ⟨rfl, hb8⟩
                have HB8 : Hid (Below B w w8) := HB7.out.trans (hb8.mono HL7.out.d.bw)
                clear hb8 HB7 HL7
                go_wp2_with fail
                refine (xawake _).mono ?_
                rintro e w9 ⟨rfl, hb9⟩
                have HB9 : Hid (Below B w w9) := HB8.out.trans (hb9.mono (by rw [HBE.out]; exact HB8.out.size))
                clear hb9
                go_wp2_with fail
                go_ret
                exact BB.mk rfl (by rw [← HBE.out]; exact HB9.out)
  · have htz1 : (20000 : Int) < (t.size : Int) := by omega
    go_enter Try.func6, Try.ntmps6
    go_wp2_with fail
    refine (xawake _).mono ?_
    rintro e w1 ⟨rfl, hb⟩
    have HB : Hid (Below w.heap.size w w1) := hb
    clear hb
    go_wp2_with fail
    go_ret
    exact BB.mk rfl HB.out
end Go.Proofs.Yteiilifljfagdaa
