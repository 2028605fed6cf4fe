/- layer 13: Set of the document's -/
import Derived.Test.YtheikjjehidagaaEO
import Derived.WalkKit
import Derived.ProofKit
import Derived.Handy
import Derived.WalkLawsBesides
import Derived.WalkSpells
import Derived.BigQuiet
import Derived.BigCall
import Derived.Deep.QuietTactic
import Derived.Deep.Light
import Derived.Deep.OwnRows
import Derived.Laws.AppendOwnNone
import Derived.Laws.Strings3
import Derived.Laws.RangeAny
import Derived.Deep.RegionWith
import Derived.Lib.BitFns
import Derived.Lib.Walk
import Derived.Lib.Strings
import Derived.Lib.OthersKept
import Derived.Deep.CutBlock
import Derived.Deep.DeepCutAuto
import Derived.Deep.LoopGhost
import Derived.Deep.RegionHeld3
import Derived.Lib.SmallJoins
import Derived.Maps.AppendAt
import Derived.Laws.IdiomStrings
import Derived.Lib.AppendZeros
import Derived.Deep.WholeRow
import Derived.Laws.BitsAllLaws
import Derived.Lib.ConvBytes
import Derived.Deep.RegionLaw
import Derived.Maps.OwnSet
import Derived.Maps.OwnOps
import Derived.Maps.RangeWalk
import Derived.Maps.Ext
import Derived.DeepKeys4
import Derived.Laws.StructEq
import Derived.Deep.MidRow
import Derived.Lib.Bytealg
import Derived.Lib.Overlaps
import Derived.Lib.AppendZerosOnto
import Derived.Laws.MakeOwn
namespace Go.Proofs.Ytheikjjehidagaa.H5
open Go.RowKit
set_option linter.unusedVariables false
set_option linter.unusedSimpArgs false
open Num
set_option maxRecDepth 20000
theorem app_none (w : World) (g : Nat) : (Builtin.append_ #[66, 66] 66 #[.slice (some ⟨g, 0, none⟩) 0 0, .slice none 0 0]).run Try.prog w = .ok (.slice (some ⟨g, 0, none⟩) 0 0) w := by
  obtain ⟨i0, hi, hz0, hz1, hz2⟩ := info_parts info44
  simp [Builtin.append_, run_underlying Try.underlying66, sizeOf, typeInfo, hi, Builtin.lenOf, Builtin.firstCells, hz1]
  rfl
theorem rcopy {B : Nat} {L : List Kn} (hl : L.length ≤ 1000) {ra : Option Addr} {rc : Nat} {w : World} (h : w.ownsRow B 106 6 (.slice ra L.length rc) L.length (kcells L)) :
    ∃ xa xc w', (Builtin.append_ #[66, 66] 66 #[.slice (some ⟨w.heap.size, 0, none⟩) 0 0, .slice ra L.length rc]).run Try.prog (w.alloc (.cells #[] 106)) = .ok (.slice xa L.length xc) w' ∧ w'.ownsRow w.heap.size 106 6 (.slice xa L.length xc) L.length (kcells L) ∧ Below w.heap.size w w' := by
  have hb0 : Below w.heap.size w (w.alloc (.cells #[] 106)) := (Below.refl _ w).alloc (Nat.le_refl _) _
  have hown : (w.alloc (.cells #[] 106)).ownsRow w.heap.size 106 6 (.slice (some ⟨w.heap.size, 0, none⟩) 0 0) 0 [] := World.ownsRow_made w #[] 0 (Nat.le_refl _) (Nat.zero_le _) rfl
  rcases h.2 with ⟨hv, hn⟩ | ⟨g, cap, cur, hv, _, hg, _⟩
  · injection hv with e1 e2 e3
    obtain rfl : L = [] := List.length_eq_zero_iff.1 hn
    subst e1 e3
    exact ⟨_, _, _, app_none _ _, hown, hb0⟩
  · injection hv with e1 e2 e3
    subst e1 e3
    have hrd := h.cells (g := g) rfl
    obtain ⟨i0, hi, hz0, hz1, hz2⟩ := info_parts info44
    obtain ⟨v', w', hr, ho, hgr, _, hat⟩ := run_append_own_at (P := Try.prog) (w := w.alloc (.cells #[] 106)) w.heap.size 66 66 106 i0 _ 6 64 Try.underlying66 hi hz0 hz1 hz2 rfl (by omega) _ _ _ hown ⟨g, 0, none⟩ L.length rc (kcells L) h.1 (fun j u hj => by
      have h1 := hrd j u hj
      rw [Addr.add_lit] at h1 ⊢
      exact (hb0.cell (p := ⟨g, 0 + j, none⟩) (Array.getElem?_eq_some_iff.1 hg).1).trans h1) (kcells_one L) (by unfold maxLen; omega) (by omega) (by simp)
    rw [Nat.zero_add, List.nil_append] at ho
    obtain ⟨xa, xc, hx, _⟩ := own_read ho ho.1
    subst hx
    exact ⟨xa, xc, w', hr, ho, hb0.grown hgr (by simp) (fun k e => by cases e; exact Nat.le_refl _)⟩
def RsP (B : Nat) (M : List Kn) (N E : Nat) (w : World) (e : Ending) (w' : World) : Prop := ∃ a c, e = .returned (.tuple #[.slice a M.length c, .int .i64 N, .int .i64 E]) ∧ Hid (w'.ownsRow B 106 6 (.slice a M.length c) M.length (kcells M) ∧ Below w.heap.size w w')
set_option maxHeartbeats 16000000 in
theorem rset {B : Nat} {L : List Kn} (g : Num.Good L) (ps : List Pr) (hl : ps.length ≤ 1000000) (a : Option Addr) (cap : Nat) (ra : Option Addr) (rc : Nat) (w : World) (h : w.ownsRow B 106 6 (.slice ra L.length rc) L.length (kcells L)) (hp : Prs w a ps) (hB : B ≤ w.heap.size) :
    Calls Try.prog 36 #[.slice ra L.length rc, .slice a ps.length cap] w (RsP B (setL L ps) (setN L ps) (setE L ps) w) := by
  obtain ⟨ra', rc', e0, _, hrw⟩ := own_rw kcs_len h rfl
  injection e0 with e1 e2 e3
  subst e1 e3
  clear e2
  have HE : Hid (Rw 6 kcs w ra L) := hrw
  have HO : Hid (w.ownsRow B 106 6 (.slice ra L.length rc) L.length (kcells L)) := h
  have HG : Hid (Num.Good L) := g
  have HP : Hid (Prs w a ps) := hp
  have HBw : Hid (B ≤ w.heap.size) := hB
  have hlz : (ps.length : Int) ≤ 1000000 := by omega
  obtain ⟨xa, xc, w1, hr1, ho1, hb1⟩ := rcopy (by have := g.len; omega) h
  have HI : Hid (w1.ownsRow w.heap.size 106 6 (.slice xa L.length xc) L.length (kcells L) ∧ Below w.heap.size w w1) := ⟨ho1, hb1⟩
  obtain ⟨LL, hLL⟩ : ∃ LL, LL = setL L ps := ⟨_, rfl⟩
  obtain ⟨NN, hNN⟩ : ∃ NN, NN = setN L ps := ⟨_, rfl⟩
  obtain ⟨EE, hEE⟩ : ∃ EE, EE = setE L ps := ⟨_, rfl⟩
  have HQ : Hid (LL = setL L ps ∧ NN = setN L ps ∧ EE = setE L ps) := ⟨hLL, hNN, hEE⟩
  have HF : Hid (∀ s w2, Below w.heap.size w w2 → Calls Try.prog 59 #[.slice ra L.length rc, .string s] w2 (FxP (fx L s.toList) w2)) := fun s w2 hb2 => rfind HG.out.srt (by have := HG.out.len; omega) s ra rc w2 (HE.out.below hb2)
  rw [← hLL, ← hNN, ← hEE]
  clear h g hp hB hrw hLL hNN hEE ho1 hb1
  go_enter Try.func36, Try.ntmps36
  go_wp2_with (at_builtin; refine Lib.wpList_append_run _ rfl _ _ 66 66 rfl _ _ rfl rfl _ w1 hr1 ?_)
  clear hr1
  go_loopw [8] (fun i wr => ∃ k : Nat, k ≤ ps.length ∧ i = .int .i64 k ∧ Hid ((∀ j (hj : j < ps.length), j < k → why L ps[j] = 0) ∧ wr.ownsRow w.heap.size 106 6 (.slice xa L.length xc) L.length (kcells (folds L (ps.take k))) ∧ Below w.heap.size w wr))
    (fun i _ => ps.length - (intOf i).toNat)
  case atStart => exact ⟨0, Nat.zero_le _, rfl, fun j _ h => absurd h (Nat.not_lt_zero j), HI.out.1, HI.out.2⟩
  case round =>
    obtain ⟨k, hk, rfl, HZ⟩ := hrel
    clear HI
    by_cases hkn : k < ps.length
    · have hkz : (k : Int) < (ps.length : Int) := by omega
      obtain ⟨blk, off, rfl, hbl, hcs⟩ := HP.out (by omega)
      have hc2 := hcs k hkn
      have HB : Hid (Below w.heap.size w wr) := HZ.out.2.2
      have HY : Hid (∀ j (hj : j < ps.length), j < k + 1 → why L ps[k] = 0 → why L ps[j] = 0) := fun j hj h1 h2 => by
        rcases Nat.lt_or_ge j k with h3 | h3
        · exact HZ.out.1 j hj h3
        · obtain rfl : j = k := by omega
          exact h2
      have HN : Hid (why L ps[k] ≠ 0 → RsP B LL NN EE w (.returned (.tuple #[.slice ra L.length rc, .int .i64 k, .int .i64 (why L ps[k])])) wr) := fun hw => by
        rw [HQ.out.1, HQ.out.2.1, HQ.out.2.2]
        obtain ⟨e1, e2, e3⟩ := setE_at hkn HZ.out.1 hw
        rw [e1, e2, e3]
        exact ⟨_, _, rfl, own_below HO.out HB.out, HB.out⟩
      have hfold := folds_take (L := L) hkn
      have HT : Hid (folds L (ps.take (k + 1)) = upd (folds L (ps.take k)) ps[k].1.toList ps[k].2) := hfold
      have hfh := folds_has ps[k].1.toList (ps.take k) L
      have hfp := folds_pos ps[k].1.toList (ps.take k) L
      have hfl := folds_len (ps.take k) L
      have hfs : Srt (folds L (ps.take k)) := folds_srt _ HG.out.srt
      have HM : Hid (wr.ownsRow w.heap.size 106 6 (.slice xa L.length xc) L.length (kcells (folds L (ps.take k)))) := HZ.out.2.1
      obtain ⟨M', hM'⟩ : ∃ M', M' = folds L (ps.take (k + 1)) := ⟨_, rfl⟩
      have HM2 : Hid (M' = folds L (ps.take (k + 1))) := hM'
      rw [← hM'] at HT
      clear hfold hM' HZ
      generalize folds L (ps.take k) = M at *
      generalize ps[k] = x at *
      obtain ⟨xs, xp⟩ := x
      simp only at *
      have c0 : wr.cell? ⟨blk, off + k * 2, none⟩ = some (.string xs) := (HB.out.cell (p := ⟨blk, off + k * 2 + 0, none⟩) hbl).trans (hc2 0 (by omega))
      have c1 : wr.cell? ⟨blk, off + k * 2 + 1, none⟩ = some (.int .i64 xp) := (HB.out.cell (p := ⟨blk, off + k * 2 + 1, none⟩) hbl).trans (hc2 1 (by omega))
      have HC : Hid (Calls Try.prog 59 #[.slice ra L.length rc, .string xs] wr (FxP (fx L xs.toList) wr)) := HF.out xs wr HB.out
      clear hc2 hcs
      cases hh : has L xs.toList with
      | false =>
        have hf : fx L xs.toList = -1 := by unfold fx; rw [hh]; rfl
        have hw : why L (xs, xp) = 21 := by unfold why; simp only [hh]; rfl
        rw [hf] at HC
        rw [hw] at HN
        have HN2 : Hid (RsP B LL NN EE w (.returned (.tuple #[.slice ra L.length rc, .int .i64 k, .int .i64 21])) wr) := HN.out (by omega)
        clear hh hf hw HN HY HM HM2 HT hfh hfp hfl hfs
        go_wp2_with (go_at_call 59; refine HC.out.mono ?_; clear HC; rintro e w3 ⟨rfl, rfl⟩)
        go_ret3
        exact HN2.out
      | true =>
        have hf : fx L xs.toList = pos L xs.toList := by unfold fx; rw [hh]; rfl
        rw [hf] at HC
        by_cases hp1 : xp < 1
        · have hw : why L (xs, xp) = 31 := by unfold why; simp only [hh, if_true]; rw [if_neg (by omega)]
          rw [hw] at HN
          have HN2 : Hid (RsP B LL NN EE w (.returned (.tuple #[.slice ra L.length rc, .int .i64 k, .int .i64 31])) wr) := HN.out (by omega)
          clear hh hf hw HN HY HM HM2 HT hfh hfp hfl hfs
          generalize pos L xs.toList = P at *
          go_wp2_with (go_at_call 59; refine HC.out.mono ?_; clear HC; rintro e w3 ⟨rfl, rfl⟩)
          go_ret3
          exact HN2.out
        by_cases hp2 : 4294967296 < xp
        · have hw : why L (xs, xp) = 31 := by unfold why; simp only [hh, if_true]; rw [if_neg (by omega)]
          rw [hw] at HN
          have HN2 : Hid (RsP B LL NN EE w (.returned (.tuple #[.slice ra L.length rc, .int .i64 k, .int .i64 31])) wr) := HN.out (by omega)
          clear hh hf hw HN HY HM HM2 HT hfh hfp hfl hfs
          generalize pos L xs.toList = P at *
          go_wp2_with (go_at_call 59; refine HC.out.mono ?_; clear HC; rintro e w3 ⟨rfl, rfl⟩)
          go_ret3
          exact HN2.out
        · have hw : why L (xs, xp) = 0 := by unfold why; simp only [hh, if_true]; rw [if_pos (by omega)]
          have HY2 : Hid (∀ j (hj : j < ps.length), j < k + 1 → why L ps[j] = 0) := fun j hj h1 => HY.out j hj h1 hw
          rw [hh] at hfh
          obtain ⟨hpl, hpe⟩ := has_pos hfs hfh
          have hml : M.length = L.length := hfl
          have hrow := HM.out
          rw [← hml] at hrow
          obtain ⟨xa', xc', e0, _, hrw⟩ := own_rw kcs_len hrow rfl
          injection e0 with e1 e2 e3
          subst e1 e3
          obtain ⟨g, o0, rfl, hgl, hgc⟩ := hrw (by omega)
          have hog : o0 = 0 := by
            rcases hrow.2 with ⟨hb, _⟩ | ⟨g2, _, _, hb, _⟩
            · cases hb
            · injection hb with hb _ _
              injection hb with hb
              injection hb with _ hb
          subst hog
          have hL6 := (Rw.at6 (w := wr) (wr := wr) hgc (Below.refl _ _) hgl hpl).2.2.2.2.2
          have d3 : wr.cell? ⟨g, pos L xs.toList * 6 + 5, none⟩ = some (.int .i64 M[pos M xs.toList].p) := by rw [Nat.zero_add] at hL6; rw [← hfp]; exact hL6
          have d4 : wr.frozen? ⟨g, pos L xs.toList * 6 + 5, none⟩ = false := by
            rcases hrow.2 with ⟨hb, _⟩ | ⟨g2, c2, cur2, hb, _, hg2, _⟩
            · cases hb
            · injection hb with hb _ _
              injection hb with hb
              injection hb with hb _
              subst hb
              exact Bx.froz (cs := cur2) (T := 106) hg2 _
          have HX : Hid ((wr.setCell ⟨g, pos L xs.toList * 6 + 5, none⟩ (.int .i64 xp)).ownsRow w.heap.size 106 6 (.slice (some ⟨g, 0, none⟩) L.length xc) L.length (kcells M') ∧ Below w.heap.size w (wr.setCell ⟨g, pos L xs.toList * 6 + 5, none⟩ (.int .i64 xp))) := by
            refine ⟨?_, HB.out.setCell (p := ⟨g, pos L xs.toList * 6 + 5, none⟩) (hrow.lt g rfl).1 _⟩
            rw [HT.out, upd_set hfs xp hpl hpe, ← hfp]
            have := own_setP hrow hpl xp
            rw [hml] at this
            exact this
          have hplz : (pos L xs.toList : Int) < (L.length : Int) := by rw [← hfp]; omega
          generalize M[pos M xs.toList].p = xu at *
          generalize pos L xs.toList = P at *
          have hpn : ¬ (P : Int) < 0 := by omega
          clear hh hf hw HN HY HM HT hfh hfp hfl hfs hpl hpe hml hrow e2 hrw hgl hgc hL6
          go_wp2_with (go_at_call 59; refine HC.out.mono ?_; clear HC; rintro e w3 ⟨rfl, rfl⟩)
          go_roundw
          case rel => exact ⟨k + 1, by omega, by simp, HY2.out, by rw [← HM2.out]; exact HX.out.1, HX.out.2⟩
          case measure => simp [intOf]; omega
    · have hkz : ¬ (k : Int) < (ps.length : Int) := by omega
      have HF2 : Hid (RsP B LL NN EE w (.returned (.tuple #[.slice xa L.length xc, .int .i64 ps.length, .int .i64 0])) wr) := by
        have h1 := HZ.out
        rw [show k = ps.length by omega, List.take_length] at h1
        rw [HQ.out.1, HQ.out.2.1, HQ.out.2.2]
        obtain ⟨e1, e2, e3⟩ := setE_end (fun j hj => h1.1 j hj hj)
        rw [e1, e2, e3]
        have hfl := folds_len ps L
        refine ⟨xa, xc, by rw [hfl]; rfl, ?_, h1.2.2⟩
        rw [hfl]
        exact own_mono h1.2.1 HBw.out
      clear HZ
      go_wp2_with fail
      go_ret3
      exact HF2.out
end Go.Proofs.Ytheikjjehidagaa.H5
