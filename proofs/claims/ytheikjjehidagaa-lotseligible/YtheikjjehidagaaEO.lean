/- layer 13: Add of the document's -/
import Derived.Test.YtheikjjehidagaaEN
import Derived.WalkKit
import Derived.ProofKit
import Derived.Handy
import Derived.WalkLawsBesides
import Derived.WalkSpells
import Derived.BigQuiet
import Derived.BigCall
import Derived.Deep.QuietTactic
import Derived.Deep.Light
import Derived.Deep.OwnRows
import Derived.Laws.AppendOwnNone
import Derived.Laws.Strings3
import Derived.Laws.RangeAny
import Derived.Deep.RegionWith
import Derived.Lib.BitFns
import Derived.Lib.Walk
import Derived.Lib.Strings
import Derived.Lib.OthersKept
import Derived.Deep.CutBlock
import Derived.Deep.DeepCutAuto
import Derived.Deep.LoopGhost
import Derived.Deep.RegionHeld3
import Derived.Lib.SmallJoins
import Derived.Maps.AppendAt
import Derived.Laws.IdiomStrings
import Derived.Lib.AppendZeros
import Derived.Deep.WholeRow
import Derived.Laws.BitsAllLaws
import Derived.Lib.ConvBytes
import Derived.Deep.RegionLaw
import Derived.Maps.OwnSet
import Derived.Maps.OwnOps
import Derived.Maps.RangeWalk
import Derived.Maps.Ext
import Derived.DeepKeys4
import Derived.Laws.StructEq
import Derived.Deep.MidRow
import Derived.Lib.Bytealg
import Derived.Lib.Overlaps
import Derived.Lib.AppendZerosOnto
import Derived.Laws.MakeOwn
namespace Go.Proofs.Ytheikjjehidagaa.H5
open Go.RowKit
set_option linter.unusedVariables false
set_option linter.unusedSimpArgs false
open Num
set_option maxRecDepth 20000
theorem info44 : (Try.prog.info? 106).map (fun i => (i.zero, i.size, i.bytes)) = some (some (.agg #[.string ⟨#[]⟩, .int .i64 0, .int .i64 0, .int .i64 0, .string ⟨#[]⟩, .int .i64 0]), 6, 64) := by kernel_rfl
/-- the document's list: what it is, and that memory is its own -/
def RaP (B : Nat) (M : List Kn) (E : Nat) (w : World) (e : Ending) (w' : World) : Prop := ∃ a c, e = .returned (.tuple #[.slice a M.length c, .int .i64 E]) ∧ Hid (w'.ownsRow B 106 6 (.slice a M.length c) M.length (kcells M) ∧ Below w.heap.size w w')
theorem outs_len (L : List Kn) (a : As) (k : Nat) (hk : k ≤ L.length) : (outs L a k).length ≤ k + 1 := by
  unfold outs
  split
  · rw [List.length_take]; omega
  · rw [List.length_take]; omega
/-- one more -/
theorem rapp {B n : Nat} {w wr : World} {v : Value} {M : List Kn} (ho : wr.ownsRow B 106 6 v M.length (kcells M)) (hm : M.length ≤ 1000) (hB : B ≤ wr.heap.size) (hb : Below w.heap.size w wr) (hBw : w.heap.size ≤ B) (x : Kn) :
    ∃ v' w', (Builtin.append_ #[66, 66] 66 #[v, .slice (some ⟨wr.heap.size, 0, none⟩) 1 1]).run Try.prog (wr.alloc (.cells #[.string x.a.i, .int .i64 x.a.iss, .int .i64 x.a.rat, .int .i64 x.a.mat, .string x.a.c, .int .i64 x.p] 106)) = .ok v' w' ∧ w'.ownsRow B 106 6 v' (M ++ [x]).length (kcells (M ++ [x])) ∧ Below w.heap.size w w' ∧ B ≤ w'.heap.size ∧ (∀ g cs T, T ≠ 106 → Bx wr g cs T → Bx w' g cs T) := by
  obtain ⟨v', w', hr, ho2, hg⟩ := app_gen (T := 106) (Sl := 66) (k := 6) (bytes := 64) Try.underlying66 info44 rfl (by omega) (kcs x) rfl (kcs_one x) ho hB (by omega) (by unfold maxLen; omega)
  refine ⟨v', w', hr, ?_, ?_, ?_, ?_⟩
  · unfold kcells
    rw [rcs_snoc, List.length_append]
    exact ho2
  · exact (hb.alloc hb.size _).grown hg (by have := hb.size; simp; omega) (fun j hj => by have := (ho.lt j hj).1; omega)
  · have := hg.size; simp at this; omega
  · intro g cs T hT hX
    exact (hX.kept (grown_alloc _ _ none) (by simp)).kept hg (own_nb ho hX hT)
theorem gt_pos {L : List Kn} (hs : Srt L) {n : List UInt8} (hh : has L n = false) {k : Nat} (hk : k < L.length) : Op.bytesLess L[k].a.i.toList n = decide (k < pos L n) ∧ (L[k].a.i.toList == n) = false := by
  refine ⟨?_, ?_⟩
  · rw [bl_eq, Bool.eq_iff_iff, decide_eq_true_iff, decide_eq_true_iff]
    exact (pos_iff (n := n) hs k hk).symm
  · rw [beq_eq_false_iff_ne]
    exact not_has hh _ (List.getElem_mem hk)
set_option maxHeartbeats 16000000 in
theorem radd {B : Nat} {L : List Kn} (g : Num.Good L) (a : As) (ra : Option Addr) (rc : Nat) (w : World) (h : w.ownsRow B 106 6 (.slice ra L.length rc) L.length (kcells L)) (hB : B ≤ w.heap.size) : Calls Try.prog 34 #[.slice ra L.length rc, .agg #[.string a.i, .int .i64 a.iss, .int .i64 a.rat, .int .i64 a.mat, .string a.c]] w (RaP B (addL L (eA a) a) (addE L (eA a) a) w) := by
  obtain ⟨ra', rc', e0, _, hrw⟩ := own_rw kcs_len h rfl
  injection e0 with e1 e2 e3
  subst e1 e3
  clear e2
  have HE : Hid (Rw 6 kcs w ra L) := hrw
  have HO : Hid (w.ownsRow B 106 6 (.slice ra L.length rc) L.length (kcells L)) := h
  have HG : Hid (Num.Good L) := g
  have HBw : Hid (B ≤ w.heap.size) := hB
  obtain ⟨w1, hw1⟩ : ∃ w1, w1 = w.alloc (.cells #[.string a.i, .int .i64 a.iss, .int .i64 a.rat, .int .i64 a.mat, .string a.c] 45) := ⟨_, rfl⟩
  have HW : Hid (w.alloc (.cells #[.string a.i, .int .i64 a.iss, .int .i64 a.rat, .int .i64 a.mat, .string a.c] 45) = w1) := hw1.symm
  have hb1 : Below w.heap.size w w1 := by rw [hw1]; exact (Below.refl _ w).alloc (Nat.le_refl _) _
  have hX1 : Bx w1 w.heap.size #[.string a.i, .int .i64 a.iss, .int .i64 a.rat, .int .i64 a.mat, .string a.c] 45 := by rw [hw1]; exact Bx.new w _ _
  have HA : Hid (∀ w2, Below w.heap.size w w2 → Bx w2 w.heap.size #[.string a.i, .int .i64 a.iss, .int .i64 a.rat, .int .i64 a.mat, .string a.c] 45 → Calls Try.prog 58 #[.agg #[.string a.i, .int .i64 a.iss, .int .i64 a.rat, .int .i64 a.mat, .string a.c]] w2 fun e w' => e = .returned (.int .i64 (eA a)) ∧ w'.cell? ⟨w.heap.size, 0, none⟩ = some (.string a.i) ∧ w'.cell? ⟨w.heap.size, 1, none⟩ = some (.int .i64 a.iss) ∧ w'.cell? ⟨w.heap.size, 2, none⟩ = some (.int .i64 a.rat) ∧ w'.cell? ⟨w.heap.size, 3, none⟩ = some (.int .i64 a.mat) ∧ w'.cell? ⟨w.heap.size, 4, none⟩ = some (.string a.c) ∧ Hid (Below w.heap.size w w' ∧ Bx w' w.heap.size #[.string a.i, .int .i64 a.iss, .int .i64 a.rat, .int .i64 a.mat, .string a.c] 45)) := fun w2 hb2 hX2 => (N5.rAsset a.i a.c a.iss a.rat a.mat w2).mono fun e w' k => by
    have hX := hX2.below k.2 hX2.lt
    exact ⟨k.1, hX.cell 0, hX.cell 1, hX.cell 2, hX.cell 3, hX.cell 4, hb2.trans (k.2.mono hb2.size), hX⟩
  have HX1 : Hid (Below w.heap.size w w1 ∧ Bx w1 w.heap.size #[.string a.i, .int .i64 a.iss, .int .i64 a.rat, .int .i64 a.mat, .string a.c] 45) := ⟨hb1, hX1⟩
  have c0 : w1.cell? ⟨w.heap.size, 0, none⟩ = some (.string a.i) := hX1.cell 0
  have c1 : w1.cell? ⟨w.heap.size, 1, none⟩ = some (.int .i64 a.iss) := hX1.cell 1
  have c2 : w1.cell? ⟨w.heap.size, 2, none⟩ = some (.int .i64 a.rat) := hX1.cell 2
  have c3 : w1.cell? ⟨w.heap.size, 3, none⟩ = some (.int .i64 a.mat) := hX1.cell 3
  have c4 : w1.cell? ⟨w.heap.size, 4, none⟩ = some (.string a.c) := hX1.cell 4
  have hlen : (L.length : Int) ≤ 64 := by have := g.len; omega
  have same : ∀ w', Below w.heap.size w w' → ∀ E, RaP B L E w (.returned (.tuple #[.slice ra L.length rc, .int .i64 E])) w' := fun w' hb E => ⟨_, _, rfl, own_below HO.out hb, hb⟩
  have HSm : Hid (∀ w', Below w.heap.size w w' → ∀ E, RaP B L E w (.returned (.tuple #[.slice ra L.length rc, .int .i64 E])) w') := same
  have HF : Hid (∀ w2, Below w.heap.size w w2 → Calls Try.prog 59 #[.slice ra L.length rc, .string a.i] w2 (FxP (fx L a.i.toList) w2)) := fun w2 hb2 => rfind HG.out.srt (by have := HG.out.len; omega) a.i ra rc w2 (HE.out.below hb2)
  clear same h g hB hrw hb1 hX1 hw1
  by_cases he : eA a = 0
  · have hen : ((eA a : Int) != 0) = false := by simp [he]
    cases hh : has L a.i.toList with
    | true =>
      have hE : addE L (eA a) a = 7 := by unfold addE; rw [if_neg (by simp [he]), if_pos hh]
      have hM : addL L (eA a) a = L := by unfold addL; rw [hE]; simp
      have hf : fx L a.i.toList = pos L a.i.toList := by unfold fx; rw [hh]; rfl
      rw [hE, hM]
      rw [hf] at HF
      clear hh hE hM he hf
      generalize eA a = E at *
      generalize pos L a.i.toList = P at *
      go_enter Try.func34, Try.ntmps34
      go_upto_region 1 with fail
      rw [HW.out]
      go_wp2_with (first | (go_at_call 58; refine (HA.out _ HX1.out.1 HX1.out.2).mono ?_; clear HA; rintro e w2 ⟨rfl, d0, d1, d2, d3, d4, HZ⟩) | (go_at_call 59; refine (HF.out _ HZ.out.1).mono ?_; clear HF; rintro e w3 ⟨rfl, rfl⟩))
      go_ret2
      exact HSm.out _ HZ.out.1 7
    | false =>
      have hf : fx L a.i.toList = -1 := by unfold fx; rw [hh]; rfl
      rw [hf] at HF
      by_cases hfu : 64 ≤ L.length
      · have hE : addE L (eA a) a = 18 := by unfold addE; rw [if_neg (by simp [he]), if_neg (by simp [hh]), if_pos hfu]
        have hM : addL L (eA a) a = L := by unfold addL; rw [hE]; simp
        have hfz : (64 : Int) ≤ (L.length : Int) := by omega
        rw [hE, hM]
        clear hh hE hM he hf hfu
        generalize eA a = E at *
        go_enter Try.func34, Try.ntmps34
        go_upto_region 1 with fail
        rw [HW.out]
        go_wp2_with (first | (go_at_call 58; refine (HA.out _ HX1.out.1 HX1.out.2).mono ?_; clear HA; rintro e w2 ⟨rfl, d0, d1, d2, d3, d4, HZ⟩) | (go_at_call 59; refine (HF.out _ HZ.out.1).mono ?_; clear HF; rintro e w3 ⟨rfl, rfl⟩))
        go_ret2
        exact HSm.out _ HZ.out.1 18
      · have hE : addE L (eA a) a = 0 := by unfold addE; rw [if_neg (by simp [he]), if_neg (by simp [hh]), if_neg hfu]
        have hM : addL L (eA a) a = ins L a := by unfold addL; rw [hE]; simp
        have hfz : ¬ (64 : Int) ≤ (L.length : Int) := by omega
        have hlt : L.length < 64 := by omega
        rw [hE, hM]
        have HH : Hid (has L a.i.toList = false) := hh
        clear hh hE hM he hf hfu
        generalize eA a = E at *
        go_enter Try.func34, Try.ntmps34
        go_upto_region 1 with fail
        rw [HW.out]
        go_wp2_with (first | (go_at_call 58; refine (HA.out _ HX1.out.1 HX1.out.2).mono ?_; clear HA; rintro e w2 ⟨rfl, d0, d1, d2, d3, d4, HZ⟩) | (go_at_call 59; refine (HF.out _ HZ.out.1).mono ?_; clear HF; rintro e w3 ⟨rfl, rfl⟩))
        clear HX1 c0 c1 c2 c3 c4 d0 d1 d2 d3 d4 HSm
        go_loopw [6, 7, 8] (fun v dn i wr => ∃ k : Nat, k ≤ L.length ∧ i = .int .i64 k ∧ dn = .bool (decide (pos L a.i.toList < k)) ∧ Hid (wr.ownsRow (w.heap.size + 1) 106 6 v (outs L a k).length (kcells (outs L a k)) ∧ Below w.heap.size w wr ∧ Bx wr w.heap.size #[.string a.i, .int .i64 a.iss, .int .i64 a.rat, .int .i64 a.mat, .string a.c] 45))
          (fun _ _ i _ => L.length - (intOf i).toNat)
        case atStart => exact ⟨0, Nat.zero_le _, rfl, by simp, by rw [outs_zero]; exact ⟨World.ownsRow_nil _ _ _ _, HZ.out.1, HZ.out.2⟩⟩
        case round =>
          obtain ⟨k, hk, rfl, rfl, HR⟩ := hrel
          clear HZ
          have HQ : Hid (∀ n, (wr.drewN n).ownsRow (w.heap.size + 1) 106 6 u6 (outs L a k).length (kcells (outs L a k)) ∧ Below w.heap.size w (wr.drewN n) ∧ Bx (wr.drewN n) w.heap.size #[.string a.i, .int .i64 a.iss, .int .i64 a.rat, .int .i64 a.mat, .string a.c] 45) := fun n => ⟨own_below HR.out.1 (N1.below_drewN (Below.refl _ _)), N1.below_drewN HR.out.2.1, HR.out.2.2.below (N1.below_drewN (Below.refl _ _)) HR.out.2.2.lt⟩
          have hol := outs_len L a k hk
          by_cases hkn : k < L.length
          · have hkz : (k : Int) < (L.length : Int) := by omega
            obtain ⟨blk, off, rfl, hbl, hcs⟩ := HE.out (by omega)
            obtain ⟨c0, _, _, _, _, _⟩ := Rw.at6 hcs HR.out.2.1 hbl hkn
            have HCs : Hid (∀ wr, Below w.heap.size w wr → wr.cell? ⟨blk, off + k * 6, none⟩ = some (.string L[k].a.i) ∧ wr.cell? ⟨blk, off + k * 6 + 1, none⟩ = some (.int .i64 L[k].a.iss) ∧ wr.cell? ⟨blk, off + k * 6 + 2, none⟩ = some (.int .i64 L[k].a.rat) ∧ wr.cell? ⟨blk, off + k * 6 + 3, none⟩ = some (.int .i64 L[k].a.mat) ∧ wr.cell? ⟨blk, off + k * 6 + 4, none⟩ = some (.string L[k].a.c) ∧ wr.cell? ⟨blk, off + k * 6 + 5, none⟩ = some (.int .i64 L[k].p)) := fun wr hb => Rw.at6 hcs hb hbl hkn
            have e0 : wr.cell? ⟨w.heap.size, 0, none⟩ = some (.string a.i) := HR.out.2.2.cell 0
            by_cases hd : pos L a.i.toList < k
            · have hdz : decide (pos L a.i.toList < k) = true := decide_eq_true hd
              have HT : Hid (outs L a k ++ [L[k]] = outs L a (k + 1)) := outs_else hkn (by omega)
              have HD : Hid (decide (pos L a.i.toList < k + 1) = true) := decide_eq_true (by omega)
              rw [hdz]
              clear hcs hd hdz HR
              generalize L[k] = x at *
              obtain ⟨⟨xi, xa, xb, xc, xs⟩, xp⟩ := x
              simp only at *
              go_wp2_with fail
              go_quiet (fail)
              have hq := HQ.out nq
              generalize wr.drewN nq = wq at *
              obtain ⟨v5, w5, hr5, ho5, hb5, hB5, hX5⟩ := rapp (n := 0) (w := w) hq.1 (by omega) (by have := hq.2.2.lt; omega) hq.2.1 (by omega) ⟨⟨xi, xa, xb, xc, xs⟩, xp⟩
              have HY : Hid (w5.ownsRow (w.heap.size + 1) 106 6 v5 (outs L a (k + 1)).length (kcells (outs L a (k + 1))) ∧ Below w.heap.size w w5 ∧ Bx w5 w.heap.size #[.string a.i, .int .i64 a.iss, .int .i64 a.rat, .int .i64 a.mat, .string a.c] 45) := ⟨by rw [← HT.out]; exact ho5, hb5, hX5 _ _ _ (by decide) hq.2.2⟩
              obtain ⟨i0, i1, i2, i3, i4, i5⟩ := HCs.out wq hq.2.1
              clear hq ho5 hb5 hB5 hX5 HT HCs
              simp only at hr5
              go_wp2_with (at_builtin; refine Lib.wpList_append_run _ rfl _ _ 66 66 rfl _ _ rfl rfl _ w5 hr5 ?_)
              go_roundw
              case rel => exact ⟨k + 1, by omega, by simp, by rw [HD.out], HY.out⟩
              case measure => simp [intOf]; omega
            · have hdz : decide (pos L a.i.toList < k) = false := decide_eq_false hd
              obtain ⟨hgt, hge⟩ := gt_pos HG.out.srt HH.out hkn
              rw [hdz]
              by_cases hp : pos L a.i.toList = k
              · have hg2 : Op.bytesLess L[k].a.i.toList a.i.toList = false := by rw [hgt]; exact decide_eq_false (by omega)
                have HT : Hid (outs L a k ++ [⟨a, 0⟩] ++ [L[k]] = outs L a (k + 1)) := outs_here hkn hp
                have HD : Hid (decide (pos L a.i.toList < k + 1) = true) := decide_eq_true (by omega)
                clear hcs hd hdz hgt hp HR
                generalize L[k] = x at *
                obtain ⟨⟨xi, xa, xb, xc, xs⟩, xp⟩ := x
                simp only at *
                go_wp2_with fail
                go_quiet (fail)
                have hq := HQ.out nq
                generalize wr.drewN nq = wq at *
                obtain ⟨v5, w5, hr5, ho5, hb5, hB5, hX5⟩ := rapp (n := 0) (w := w) hq.1 (by omega) (by have := hq.2.2.lt; omega) hq.2.1 (by omega) ⟨a, 0⟩
                obtain ⟨v6, w6, hr6, ho6, hb6, hB6, hX6⟩ := rapp (n := 0) (w := w) ho5 (by rw [List.length_append]; simp; omega) hB5 hb5 (by omega) ⟨⟨xi, xa, xb, xc, xs⟩, xp⟩
                have HY : Hid (w6.ownsRow (w.heap.size + 1) 106 6 v6 (outs L a (k + 1)).length (kcells (outs L a (k + 1))) ∧ Below w.heap.size w w6 ∧ Bx w6 w.heap.size #[.string a.i, .int .i64 a.iss, .int .i64 a.rat, .int .i64 a.mat, .string a.c] 45) := ⟨by rw [← HT.out]; exact ho6, hb6, hX6 _ _ _ (by decide) (hX5 _ _ _ (by decide) hq.2.2)⟩
                obtain ⟨i0, i1, i2, i3, i4, i5⟩ := HCs.out w5 hb5
                have f0 : wq.cell? ⟨w.heap.size, 0, none⟩ = some (.string a.i) := hq.2.2.cell 0
                have f1 : wq.cell? ⟨w.heap.size, 1, none⟩ = some (.int .i64 a.iss) := hq.2.2.cell 1
                have f2 : wq.cell? ⟨w.heap.size, 2, none⟩ = some (.int .i64 a.rat) := hq.2.2.cell 2
                have f3 : wq.cell? ⟨w.heap.size, 3, none⟩ = some (.int .i64 a.mat) := hq.2.2.cell 3
                have f4 : wq.cell? ⟨w.heap.size, 4, none⟩ = some (.string a.c) := hq.2.2.cell 4
                clear hq ho5 hb5 hB5 hX5 ho6 hb6 hB6 hX6 HT HCs
                simp only at hr5 hr6
                go_wp2_with (first | (at_builtin; refine Lib.wpList_append_run _ rfl _ _ 66 66 rfl _ _ rfl rfl _ w5 hr5 ?_; clear hr5) | (at_builtin; refine Lib.wpList_append_run _ rfl _ _ 66 66 rfl _ _ rfl rfl _ w6 hr6 ?_))
                go_roundw
                case rel => exact ⟨k + 1, by omega, by simp, by rw [HD.out], HY.out⟩
                case measure => simp [intOf]; omega
              · have hg2 : Op.bytesLess L[k].a.i.toList a.i.toList = true := by rw [hgt]; exact decide_eq_true (by omega)
                have HT : Hid (outs L a k ++ [L[k]] = outs L a (k + 1)) := outs_else hkn hp
                have HD : Hid (decide (pos L a.i.toList < k + 1) = false) := decide_eq_false (by omega)
                clear hcs hd hdz hgt hp HR
                generalize L[k] = x at *
                obtain ⟨⟨xi, xa, xb, xc, xs⟩, xp⟩ := x
                simp only at *
                go_wp2_with fail
                go_quiet (fail)
                have hq := HQ.out nq
                generalize wr.drewN nq = wq at *
                obtain ⟨v5, w5, hr5, ho5, hb5, hB5, hX5⟩ := rapp (n := 0) (w := w) hq.1 (by omega) (by have := hq.2.2.lt; omega) hq.2.1 (by omega) ⟨⟨xi, xa, xb, xc, xs⟩, xp⟩
                have HY : Hid (w5.ownsRow (w.heap.size + 1) 106 6 v5 (outs L a (k + 1)).length (kcells (outs L a (k + 1))) ∧ Below w.heap.size w w5 ∧ Bx w5 w.heap.size #[.string a.i, .int .i64 a.iss, .int .i64 a.rat, .int .i64 a.mat, .string a.c] 45) := ⟨by rw [← HT.out]; exact ho5, hb5, hX5 _ _ _ (by decide) hq.2.2⟩
                obtain ⟨i0, i1, i2, i3, i4, i5⟩ := HCs.out wq hq.2.1
                clear hq ho5 hb5 hB5 hX5 HT HCs
                simp only at hr5
                go_wp2_with (at_builtin; refine Lib.wpList_append_run _ rfl _ _ 66 66 rfl _ _ rfl rfl _ w5 hr5 ?_)
                go_roundw
                case rel => exact ⟨k + 1, by omega, by simp, by rw [HD.out], HY.out⟩
                case measure => simp [intOf]; omega
          · have hkz : ¬ (k : Int) < (L.length : Int) := by omega
            have hkl : k = L.length := by omega
            have hple := pos_le L a.i.toList
            by_cases hd : pos L a.i.toList < k
            · have hdz : decide (pos L a.i.toList < k) = true := decide_eq_true hd
              have HT : Hid (outs L a k = ins L a) := by unfold Hid; rw [hkl]; exact outs_done (by omega)
              rw [hdz]
              have HF2 : Hid (RaP B (ins L a) 0 w (.returned (.tuple #[u6, .int .i64 0])) wr) := by
                have ho := HR.out.1
                rw [HT.out] at ho
                obtain ⟨xa, xc, hx, _⟩ := own_read ho ho.1
                subst hx
                exact ⟨xa, xc, rfl, own_mono ho (by have := HBw.out; omega), HR.out.2.1⟩
              clear HR HQ hd hdz HT hkl hple
              go_wp2_with fail
              go_ret2
              exact HF2.out
            · have hdz : decide (pos L a.i.toList < k) = false := decide_eq_false hd
              have HT : Hid (outs L a k ++ [⟨a, 0⟩] = ins L a) := by unfold Hid; rw [hkl]; exact outs_end (by omega)
              rw [hdz]
              have hq := HR.out
              obtain ⟨v5, w5, hr5, ho5, hb5, hB5, hX5⟩ := rapp (n := 0) (w := w) hq.1 (by omega) (by have := hq.2.2.lt; omega) hq.2.1 (by omega) ⟨a, 0⟩
              have HF2 : Hid (RaP B (ins L a) 0 w (.returned (.tuple #[v5, .int .i64 0])) w5) := by
                rw [HT.out] at ho5
                obtain ⟨xa, xc, hx, _⟩ := own_read ho5 ho5.1
                subst hx
                exact ⟨xa, xc, rfl, own_mono ho5 (by have := HBw.out; omega), hb5⟩
              have f0 : wr.cell? ⟨w.heap.size, 0, none⟩ = some (.string a.i) := hq.2.2.cell 0
              have f1 : wr.cell? ⟨w.heap.size, 1, none⟩ = some (.int .i64 a.iss) := hq.2.2.cell 1
              have f2 : wr.cell? ⟨w.heap.size, 2, none⟩ = some (.int .i64 a.rat) := hq.2.2.cell 2
              have f3 : wr.cell? ⟨w.heap.size, 3, none⟩ = some (.int .i64 a.mat) := hq.2.2.cell 3
              have f4 : wr.cell? ⟨w.heap.size, 4, none⟩ = some (.string a.c) := hq.2.2.cell 4
              clear HR HQ hd hdz HT hkl hple hq ho5 hb5 hB5 hX5
              simp only at hr5
              go_wp2_with (at_builtin; refine Lib.wpList_append_run _ rfl _ _ 66 66 rfl _ _ rfl rfl _ w5 hr5 ?_)
              go_ret2
              exact HF2.out
  · have hen : ((eA a : Int) != 0) = true := by simp [he]
    have hE : addE L (eA a) a = eA a := by unfold addE; rw [if_pos he]
    have hM : addL L (eA a) a = L := by unfold addL; rw [hE, if_neg he]
    rw [hE, hM]
    clear hE hM he HF
    generalize eA a = E at *
    go_enter Try.func34, Try.ntmps34
    go_upto_region 1 with fail
    rw [HW.out]
    go_wp2_with (first | (go_at_call 58; refine (HA.out _ HX1.out.1 HX1.out.2).mono ?_; clear HX1 c0 c1 c2 c3 c4; rintro e w2 ⟨rfl, d0, d1, d2, d3, d4, HZ⟩) | (go_at_call 58; refine (HA.out _ HZ.out.1 HZ.out.2).mono ?_; clear HA; rintro e w3 ⟨rfl, _, _, _, _, _, HZ3⟩))
    go_ret2
    exact HSm.out _ HZ3.out.1 E
end Go.Proofs.Ytheikjjehidagaa.H5
