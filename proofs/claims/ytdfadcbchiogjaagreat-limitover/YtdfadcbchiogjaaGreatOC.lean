/- layer 16: the document's Uses -/
import Derived.Test.YtdfadcbchiogjaaGreatOB
import Derived.WalkKit
import Derived.ProofKit
import Derived.Handy
import Derived.WalkLawsBesides
import Derived.WalkSpells
import Derived.BigQuiet
import Derived.BigCall
import Derived.Deep.QuietTactic
import Derived.Deep.Light
import Derived.Deep.OwnRows
import Derived.Laws.AppendOwnNone
import Derived.Laws.Strings3
import Derived.Laws.RangeAny
import Derived.Deep.RegionWith
import Derived.Lib.BitFns
import Derived.Lib.Walk
import Derived.Lib.Strings
import Derived.Lib.OthersKept
import Derived.Deep.CutBlock
import Derived.Deep.DeepCutAuto
import Derived.Deep.LoopGhost
import Derived.Deep.RegionHeld3
import Derived.Lib.SmallJoins
import Derived.Maps.AppendAt
import Derived.Laws.IdiomStrings
import Derived.Lib.AppendZeros
import Derived.Deep.WholeRow
import Derived.Laws.BitsAllLaws
import Derived.Lib.ConvBytes
import Derived.Deep.RegionLaw
import Derived.Maps.OwnSet
import Derived.Maps.OwnOps
import Derived.Maps.RangeWalk
import Derived.Maps.Ext
import Derived.DeepKeys4
import Derived.Laws.StructEq
import Derived.Deep.MidRow
import Derived.Lib.Bytealg
import Derived.Lib.AppendZerosOnto
import Derived.Laws.MakeOwn
import Derived.Deep.Upon
import Derived.Sort.KeysCollected
namespace Go.Proofs.YtdfadcbchiogjaaGreat
open Go.RowKit
set_option linter.unusedVariables false
set_option linter.unusedSimpArgs false
set_option maxRecDepth 20000
set_option maxHeartbeats 16000000 in
theorem ruses {w : World} {v : Value} {T : Tb} (h : Lo w v T.L) (hl : T.L.length ≤ 1000) (hI : ∀ n j, Rng (smI (T.L.take j) n)) (hA : ∀ s j, Rng (smA (T.L.take j) s)) (hz : ∀ q ∈ T.L, q.s.length ≤ 281474976710656) : Calls Tryz.prog 24 #[.agg (rtc T v).toArray] w (UsP 70 4 ucs T.uses w) := by
  obtain ⟨sa, sc, rfl, hr⟩ := h.read
  obtain ⟨w1, hw1⟩ : ∃ w1, w.alloc (.cells (rtc T (.slice sa T.L.length sc)).toArray 65) = w1 := ⟨_, rfl⟩
  have HB : Hid (Below w.heap.size w w1) := by rw [← hw1]; exact below_a w _
  have hX : Bx w1 w.heap.size (rtc T (.slice sa T.L.length sc)).toArray 65 := by rw [← hw1]; exact Bx.new w _ _
  have h1 : Lo w1 (.slice sa T.L.length sc) T.L := h.below HB.out
  have HRw : Hid (Rw 3 pcs w1 sa T.L) := hr.below HB.out
  have HX : Hid (∀ W, Below w1.heap.size w1 W → W.cell? ⟨w.heap.size, 0, none⟩ = some (.int .i64 T.need) ∧ W.cell? ⟨w.heap.size, 1, none⟩ = some (.int .i64 T.li) ∧ W.cell? ⟨w.heap.size, 2, none⟩ = some (.int .i64 T.la) ∧ W.cell? ⟨w.heap.size, 3, none⟩ = some (.slice sa T.L.length sc)) := fun W hb => by
    have k1 := hX.below hb hX.lt
    exact ⟨k1.cell 0, k1.cell 1, k1.cell 2, k1.cell 3⟩
  have hlz : (T.L.length : Int) ≤ 1000 := by omega
  have HC : Hid (∀ W n, Below w1.heap.size w1 W → Calls Tryz.prog 30 #[.agg (rtc T (.slice sa T.L.length sc)).toArray, .int .i64 n] W (RmP (smI T.L n) W)) := fun W n hb => rissuer (h1.below hb) T.need T.li T.la n (hI n) (by omega)
  have HAs : Hid (∀ W, Below w1.heap.size w1 W → Calls Tryz.prog 44 #[.agg (rtc T (.slice sa T.L.length sc)).toArray] W (UsP 70 4 ucs ((upsA T.L).map (U2 T)) W)) := fun W hb => rassets (h1.below hb) hl hI hA hz
  obtain ⟨U, hU⟩ : ∃ U, U = ups (fun a b : Int => decide (a < b)) (T.L.map (·.i)) := ⟨_, rfl⟩
  have HN : Hid (∀ k, k ≤ U.length → nxt (fun a b : Int => decide (a < b)) (if k = 0 then none else U[k - 1]?) (T.L.map (·.i)) none = U[k]?) := fun k hk => by
    rw [hU] at hk ⊢
    exact nxt_ups ordI _ k hk
  have HUl : Hid (U.length ≤ 1000) := by
    rw [hU]
    have := ups_len ordI (T.L.map (·.i))
    rw [List.length_map] at this
    unfold Hid
    omega
  have HUf : Hid (filt (smI T.L) U = upsI T.L) := by rw [hU]; rfl
  clear h hr hX h1 hI hA hz hU
  simp only [rtc] at *
  obtain ⟨x0, x1, x2, x3⟩ := HX.out w1 (Below.refl _ _)
  go_enter Tryz.func24, Tryz.ntmps24
  go_wp2_with fail
  go_loopg [3, 4, 5] (U.length + 1) (fun gk v3 v4 v5 wr => ∃ (k : Nat) (any : Bool) (last : Int), gk = U.length + 1 - k ∧ k ≤ U.length ∧ v4 = .int .i64 last ∧ v5 = .bool any ∧ Hid ((if k = 0 then none else U[k - 1]?) = opt any last) ∧ Hid (wr.ownsRow w1.heap.size 70 4 v3 ((filt (smI T.L) (U.take k)).map (U1 T)).length (rcs ucs ((filt (smI T.L) (U.take k)).map (U1 T))) ∧ Below w1.heap.size w1 wr))
  case atStart => exact ⟨0, false, 0, rfl, Nat.zero_le _, rfl, rfl, rfl, World.ownsRow_nil _ _ _ _, Below.refl _ _⟩
  case round =>
    obtain ⟨k, any, last, rfl, hk, rfl, rfl, HLo, HO⟩ := hrel
    obtain ⟨q0, q1, q2, q3⟩ := HX.out wr HO.out.2
    have HNk := HN.out k hk
    rw [HLo.out] at HNk
    have HNx : Hid (nxt (fun a b : Int => decide (a < b)) (opt any last) (T.L.map (·.i)) none = U[k]?) := HNk
    clear HNk HLo
    go_wp2_with fail
    go_loopw [6, 7, 8] (fun v6 v7 i wz => ∃ (j : Nat) (nx : Int) (fd : Bool), j ≤ T.L.length ∧ i = .int .i64 j ∧ v6 = .int .i64 nx ∧ v7 = .bool fd ∧ Hid (nxt (fun a b : Int => decide (a < b)) (opt any last) ((T.L.map (·.i)).take j) none = opt fd nx) ∧ wz = wr)
      (fun _ _ i _ => T.L.length - (intOf i).toNat)
    case atStart => exact ⟨0, 0, false, Nat.zero_le _, rfl, rfl, rfl, rfl, rfl⟩
    case round =>
      obtain ⟨j, nx, fd, hj, rfl, rfl, rfl, HF, rfl⟩ := hrel
      by_cases hjn : j < T.L.length
      · have hjz : (j : Int) < (T.L.length : Int) := by omega
        obtain ⟨blk, off, rfl, hbl, hcs⟩ := HRw.out (by omega)
        obtain ⟨d0, d1, d2⟩ := pcs_at hcs HO.out.2 hbl hjn
        have hst := nxt_take (fun a b : Int => decide (a < b)) (opt any last) (T.L.map (·.i)) none j (by rw [List.length_map]; exact hjn)
        rw [HF.out, List.getElem_map] at hst
        have HST : Hid (nxt (fun a b : Int => decide (a < b)) (opt any last) ((T.L.map (·.i)).take (j + 1)) none = stp (fun a b : Int => decide (a < b)) (opt any last) T.L[j].i (opt fd nx)) := hst
        clear hcs hbl hst HF HNx HO HN HUl HUf HC HX HAs
        generalize T.L[j] = y at *
        obtain ⟨yi, ys, yc⟩ := y
        simp only at *
        cases any with
        | false =>
          cases fd with
          | false =>
            have HR : Hid (nxt (fun a b : Int => decide (a < b)) (opt false last) ((T.L.map (·.i)).take (j + 1)) none = opt true yi) := by
              unfold Hid
              rw [HST.out]
              simp [stp, abv, lss, opt]
            clear HST
            go_wp2_with fail
            go_roundw
            case rel => exact ⟨j + 1, _, _, by omega, by simp, rfl, rfl, HR.out, trivial⟩
            case measure => simp [intOf]; omega
          | true =>
            by_cases hls : yi < nx
            · have HR : Hid (nxt (fun a b : Int => decide (a < b)) (opt false last) ((T.L.map (·.i)).take (j + 1)) none = opt true yi) := by
                unfold Hid
                rw [HST.out]
                simp [stp, abv, lss, opt, hls]
              clear HST
              go_wp2_with fail
              go_roundw
              case rel => exact ⟨j + 1, _, _, by omega, by simp, rfl, rfl, HR.out, trivial⟩
              case measure => simp [intOf]; omega
            · have HR : Hid (nxt (fun a b : Int => decide (a < b)) (opt false last) ((T.L.map (·.i)).take (j + 1)) none = opt true nx) := by
                unfold Hid
                rw [HST.out]
                simp [stp, abv, lss, opt, hls]
              clear HST
              go_wp2_with fail
              go_roundw
              case rel => exact ⟨j + 1, _, _, by omega, by simp, rfl, rfl, HR.out, trivial⟩
              case measure => simp [intOf]; omega
        | true =>
          by_cases hg : last < yi
          · cases fd with
            | false =>
              have HR : Hid (nxt (fun a b : Int => decide (a < b)) (opt true last) ((T.L.map (·.i)).take (j + 1)) none = opt true yi) := by
                unfold Hid
                rw [HST.out]
                simp [stp, abv, lss, opt, hg]
              clear HST
              go_wp2_with fail
              go_roundw
              case rel => exact ⟨j + 1, _, _, by omega, by simp, rfl, rfl, HR.out, trivial⟩
              case measure => simp [intOf]; omega
            | true =>
              by_cases hls : yi < nx
              · have HR : Hid (nxt (fun a b : Int => decide (a < b)) (opt true last) ((T.L.map (·.i)).take (j + 1)) none = opt true yi) := by
                  unfold Hid
                  rw [HST.out]
                  simp [stp, abv, lss, opt, hg, hls]
                clear HST
                go_wp2_with fail
                go_roundw
                case rel => exact ⟨j + 1, _, _, by omega, by simp, rfl, rfl, HR.out, trivial⟩
                case measure => simp [intOf]; omega
              · have HR : Hid (nxt (fun a b : Int => decide (a < b)) (opt true last) ((T.L.map (·.i)).take (j + 1)) none = opt true nx) := by
                  unfold Hid
                  rw [HST.out]
                  simp [stp, abv, lss, opt, hg, hls]
                clear HST
                go_wp2_with fail
                go_roundw
                case rel => exact ⟨j + 1, _, _, by omega, by simp, rfl, rfl, HR.out, trivial⟩
                case measure => simp [intOf]; omega
          · cases fd with
            | false =>
              have HR : Hid (nxt (fun a b : Int => decide (a < b)) (opt true last) ((T.L.map (·.i)).take (j + 1)) none = opt false nx) := by
                unfold Hid
                rw [HST.out]
                simp [stp, abv, lss, opt, hg]
              clear HST
              go_wp2_with fail
              go_roundw
              case rel => exact ⟨j + 1, _, _, by omega, by simp, rfl, rfl, HR.out, trivial⟩
              case measure => simp [intOf]; omega
            | true =>
              by_cases hls : yi < nx
              · have HR : Hid (nxt (fun a b : Int => decide (a < b)) (opt true last) ((T.L.map (·.i)).take (j + 1)) none = opt true nx) := by
                  unfold Hid
                  rw [HST.out]
                  simp [stp, abv, lss, opt, hg, hls]
                clear HST
                go_wp2_with fail
                go_roundw
                case rel => exact ⟨j + 1, _, _, by omega, by simp, rfl, rfl, HR.out, trivial⟩
                case measure => simp [intOf]; omega
              · have HR : Hid (nxt (fun a b : Int => decide (a < b)) (opt true last) ((T.L.map (·.i)).take (j + 1)) none = opt true nx) := by
                  unfold Hid
                  rw [HST.out]
                  simp [stp, abv, lss, opt, hg, hls]
                clear HST
                go_wp2_with fail
                go_roundw
                case rel => exact ⟨j + 1, _, _, by omega, by simp, rfl, rfl, HR.out, trivial⟩
                case measure => simp [intOf]; omega
      · have hjz : ¬ (j : Int) < (T.L.length : Int) := by omega
        have HFe : Hid (opt fd nx = U[k]?) := by
          have h1 := HF.out
          rw [List.take_of_length_le (by rw [List.length_map]; omega), HNx.out] at h1
          exact h1.symm
        clear HF HNx
        cases fd with
        | false =>
          have hke : k = U.length := by
            have h2 := HFe.out
            simp [opt] at h2
            omega
          have HOe : Hid (wr.ownsRow w1.heap.size 70 4 u3 ((upsI T.L).map (U1 T)).length (rcs ucs ((upsI T.L).map (U1 T))) ∧ Below w1.heap.size w1 wr) := by
            have hr := HO.out
            rwa [hke, List.take_length, HUf.out] at hr
          have HA2 : Hid (Calls Tryz.prog 44 #[.agg #[.int .i64 T.need, .int .i64 T.li, .int .i64 T.la, .slice sa T.L.length sc]] wr fun e w' => ∃ v2, e = .returned v2 ∧ ∃ v3 w3, (Builtin.append_ #[34, 34] 34 #[u3, v2]).run Tryz.prog w' = .ok v3 w3 ∧ Hid (UsP 70 4 ucs T.uses w (.returned v3) w3)) := (HAs.out wr HOe.out.2).mono fun e w' hh => by
            obtain ⟨v2, rfl, hz⟩ := hh
            have ho := own_below HOe.out.1 hz.out.2
            have hb := HOe.out.2.trans (hz.out.2.mono HOe.out.2.size)
            have hl2 : ((upsI T.L).map (U1 T)).length + ((upsA T.L).map (U2 T)).length ≤ 2000 := by
              have h1 := upsI_len T.L
              have h2 := upsA_len T.L
              rw [List.length_map, List.length_map]
              omega
            obtain ⟨v3, w3, hr, ho3, hg, -⟩ := app_rows (T := 70) (Sl := 34) (k := 4) (bytes := 40) Tryz.underlying34 info77 rfl (by omega) ho hz.out.1 (rcs_one ucs_one _) hb.size (by unfold maxLen; omega) (by omega)
            rw [← rcs_app] at ho3
            rw [← List.length_append] at ho3
            exact ⟨v2, rfl, v3, w3, hr, v3, rfl, own_mono ho3 HB.out.size, HB.out.trans ((hb.grown hg hb.size (fun j hj => (ho.lt j hj).1)).mono HB.out.size)⟩
          clear HO HFe HOe
          go_wp2_with (first | (go_at_call 44; refine HA2.out.mono ?_; clear HA2; rintro e w2 ⟨v2, rfl, v3, w3, hr, HFin⟩) | (at_builtin; refine Lib.wpList_append_run _ rfl _ _ 34 34 rfl _ _ rfl rfl _ w3 hr ?_))
          go_ret
          exact HFin.out
        | true =>
          have hkU : k < U.length := by
            have h2 := HFe.out
            by_cases h3 : k < U.length
            · exact h3
            · rw [List.getElem?_eq_none (by omega)] at h2
              cases h2
          have hUk : U[k] = nx := by
            have h2 := HFe.out
            rw [List.getElem?_eq_getElem hkU] at h2
            simpa [opt] using h2.symm
          have HLo2 : Hid ((if k + 1 = 0 then none else U[k + 1 - 1]?) = opt true nx) := by
            unfold Hid
            rw [if_neg (by omega), Nat.add_sub_cancel, List.getElem?_eq_getElem hkU, hUk]
            rfl
          have HCk : Hid (Calls Tryz.prog 30 #[.agg #[.int .i64 T.need, .int .i64 T.li, .int .i64 T.la, .slice sa T.L.length sc], .int .i64 nx] wr (RmP (smI T.L nx) wr)) := HC.out wr nx HO.out.2
          by_cases hpos : 0 < smI T.L nx
          · have hfy := filt_yes (f := smI T.L) hkU (by rw [hUk]; exact hpos)
            rw [hUk] at hfy
            have hlen : ((filt (smI T.L) (U.take k)).map (U1 T)).length ≤ 1000 := by
              have h2 := filt_len (smI T.L) (U.take k)
              have h3 := HUl.out
              rw [List.length_take] at h2
              rw [List.length_map]
              omega
            have HC2 : Hid (∀ W, Below wr.heap.size wr W → (W.cell? ⟨w.heap.size, 0, none⟩ = some (.int .i64 T.need) ∧ W.cell? ⟨w.heap.size, 1, none⟩ = some (.int .i64 T.li) ∧ W.cell? ⟨w.heap.size, 2, none⟩ = some (.int .i64 T.la) ∧ W.cell? ⟨w.heap.size, 3, none⟩ = some (.slice sa T.L.length sc)) ∧
                Calls Tryz.prog 30 #[.agg #[.int .i64 T.need, .int .i64 T.li, .int .i64 T.la, .slice sa T.L.length sc], .int .i64 nx] W.drew fun e w6 => ∃ y, e = .returned y ∧ (y = .int .i64 (smI T.L nx) ∧ w6.cell? ⟨w.heap.size, 1, none⟩ = some (.int .i64 T.li) ∧
                ∃ v' w7, (Builtin.append_ #[34, 34] 34 #[u3, .slice (some ⟨w6.heap.size, 0, none⟩) 1 1]).run Tryz.prog (w6.alloc (.cells #[.int .i64 nx, .string ⟨#[]⟩, .int .i64 (smI T.L nx), .int .i64 T.li] 70)) = .ok v' w7 ∧
                Hid (w7.ownsRow w1.heap.size 70 4 v' ((filt (smI T.L) (U.take (k + 1))).map (U1 T)).length (rcs ucs ((filt (smI T.L) (U.take (k + 1))).map (U1 T))) ∧ Below w1.heap.size w1 w7))) := fun W hb => by
              have hbW : Below w1.heap.size w1 W := HO.out.2.trans (hb.mono HO.out.2.size)
              refine ⟨HX.out W hbW, (HC.out W.drew nx hbW.drew).mono fun e w6 hh => ?_⟩
              have hb6 : Below wr.heap.size wr w6 := hb.trans ((below_undrew hh.2).mono hb.size)
              have hb16 : Below w1.heap.size w1 w6 := HO.out.2.trans (hb6.mono HO.out.2.size)
              have ho6 := own_below HO.out.1 hb6
              obtain ⟨v', w7, hr, ho, hg⟩ := app_gen (T := 70) (Sl := 34) (k := 4) (bytes := 40) Tryz.underlying34 info77 rfl (by omega) (ucs (U1 T nx)) rfl (ucs_one _) ho6 hb16.size (by omega) (by unfold maxLen; omega)
              refine ⟨_, hh.1, rfl, (HX.out w6 hb16).2.1, v', w7, hr, ?_, (hb16.alloc hb16.size _).grown hg (by have := hb16.size; simp; omega) (fun j hj => (ho6.lt j hj).1)⟩
              rw [hfy, List.map_append, List.length_append]
              show w7.ownsRow _ 70 4 v' _ (rcs ucs (_ ++ [U1 T nx]))
              rw [rcs_snoc]
              exact ho
            clear hfy hlen HO HFe hUk
            generalize smI T.L nx = cv at *
            have hposb : (decide (0 < cv)) = true := decide_eq_true hpos
            go_upto_region 12 with (go_at_call 30; refine HCk.out.mono ?_; clear HCk; rintro e w5 ⟨rfl, b5⟩; obtain ⟨⟨p0, p1, p2, p3⟩, HC3⟩ := HC2.out w5 b5; clear HC2 b5)
            go_region_law (first | (refine step_call _ (by rfl) 30 #[.agg #[.int .i64 T.need, .int .i64 T.li, .int .i64 T.la, .slice sa T.L.length sc], .int .i64 nx] (by go_simp) _ HC3 ?_; clear HC3; rintro v9 w6 ⟨rfl, k1, v', w7, hr, HY⟩) | (refine step_append_run _ (by rfl) _ _ 34 34 (by rfl) _ _ (by rfl) (by rfl) _ w7 hr ?_))
            all_goals
              go_wp2_with fail
              go_roundg (U.length + 1 - (k + 1))
              case measure => omega
              case rel => exact ⟨k + 1, true, nx, rfl, by omega, rfl, rfl, HLo2.out, HY.out⟩
          · have hfn := filt_no (f := smI T.L) hkU (by rw [hUk]; exact hpos)
            have HY : Hid (∀ W, Below wr.heap.size wr W → W.ownsRow w1.heap.size 70 4 u3 ((filt (smI T.L) (U.take (k + 1))).map (U1 T)).length (rcs ucs ((filt (smI T.L) (U.take (k + 1))).map (U1 T))) ∧ Below w1.heap.size w1 W) := fun W hb => by
              rw [hfn]
              exact ⟨own_below HO.out.1 hb, HO.out.2.trans (hb.mono HO.out.2.size)⟩
            clear hfn HO HFe hUk
            generalize smI T.L nx = cv at *
            go_wp2_with (go_at_call 30; refine HCk.out.mono ?_; clear HCk; rintro e w5 ⟨rfl, b5⟩; have HB5 : Hid (Below wr.heap.size wr w5) := b5; clear b5)
            go_roundg (U.length + 1 - (k + 1))
            case measure => omega
            case rel => exact ⟨k + 1, true, nx, rfl, by omega, rfl, rfl, HLo2.out, HY.out _ HB5.out⟩
end Go.Proofs.YtdfadcbchiogjaaGreat
