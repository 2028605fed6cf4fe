/- layer 14: law Plays -/
import Derived.Test.YtmjaijpikbdfkaaJG
import Derived.Test.YtmjaijpikbdfkaaIX
import Derived.WalkKit
import Derived.ProofKit
import Derived.Handy
import Derived.WalkLawsBesides
import Derived.WalkSpells
import Derived.BigQuiet
import Derived.BigCall
import Derived.Deep.QuietTactic
import Derived.Deep.Light
import Derived.Deep.OwnRows
import Derived.Laws.AppendOwnNone
import Derived.Laws.Strings3
import Derived.Laws.RangeAny
import Derived.Deep.RegionWith
import Derived.Lib.BitFns
import Derived.Lib.Walk
import Derived.Lib.Strings
import Derived.Lib.OthersKept
import Derived.Deep.CutBlock
import Derived.Deep.DeepCutAuto
import Derived.Deep.LoopGhost
import Derived.Deep.RegionHeld3
import Derived.Lib.SmallJoins
import Derived.Maps.AppendAt
import Derived.Laws.IdiomStrings
import Derived.Lib.AppendZeros
import Derived.Deep.WholeRow
import Derived.Laws.BitsAllLaws
import Derived.Lib.ConvBytes
import Derived.Deep.RegionLaw
import Derived.Maps.OwnSet
import Derived.Maps.OwnOps
import Derived.Maps.RangeWalk
import Derived.Maps.Ext
import Derived.DeepKeys4
import Derived.Laws.StructEq
import Derived.Deep.MidRow
import Derived.Lib.Bytealg
import Derived.Lib.Overlaps
import Derived.Lib.AppendZerosOnto
import Derived.Laws.MakeOwn
import Derived.Deep.Upon
import Derived.Sort.OwnSortedInts
namespace Go.Proofs.Ytmjaijpikbdfkaa
open Go.RowKit
set_option linter.unusedVariables false
set_option linter.unusedSimpArgs false
set_option maxRecDepth 20000
theorem Wq.on {w W : World} {x : Bm} (h : Wq w x) (hb : Below w.heap.size w W) : Ha w.heap.size W x := h.h.keep hb
set_option maxHeartbeats 16000000 in
theorem lplays (l : List Bm) (ad : Option Addr) (cap : Nat) (w : World) (hr : Rw 10 bcs w ad l) (hq : ∀ y ∈ l, Wq w y) : Calls Try.prog 5 #[.slice ad l.length cap] w (OkP w) := by
  have HRW : Hid (Rw 10 bcs w ad l) := hr
  have HQ : Hid (∀ y ∈ l, Wq w y) := hq
  have HNW : Hid (Calls Try.prog 15 #[] w (NwP w)) := xnew w
  have K9 : Hid (∀ W, Calls Try.prog 9 #[] W (OkP W)) := fun W => xawake W
  clear hr hq
  go_enter Try.func5, Try.ntmps5
  go_wp2_with (go_at_call 15; refine HNW.out.mono ?_; clear HNW; rintro e w1 ⟨rfl, HN⟩)
  have HP1 : Hid (Pl w.heap.size w w1 (w.heap.size + 1) w.heap.size (.slice none 0 0) [] [] 0) := Pl.start HN.out.1 HN.out.2
  clear HN
  go_loopw [4, 5] (fun v i wr => ∃ (k : Nat) (ys : List Bm), k ≤ l.length ∧ k ≤ 80 ∧ i = .int .i64 k ∧ Hid (Pl w.heap.size w wr (w.heap.size + 1) w.heap.size v (ys.map (fun y : Bm => y.b)) ys k ∧ Gd (ys.map (fun y : Bm => y.b)) k))
    (fun _ i _ => l.length - (intOf i).toNat)
  case atStart => exact ⟨0, [], Nat.zero_le _, Nat.zero_le _, rfl, HP1.out, Gd.nil⟩
  case round =>
    obtain ⟨k, ys, hk, hk8, rfl, HZ⟩ := hrel
    by_cases hkn : k < l.length ∧ k < 80
    · have hkl : k < l.length := hkn.1
      have hkz : (k : Int) < (l.length : Int) := by omega
      have hk80 : (k : Int) < 80 := by omega
      obtain ⟨blk, off, rfl, hbl, hcs⟩ := HRW.out (by omega)
      have hc := hcs k hkl
      have HXQ : Hid (Wq w l[k]) := HQ.out _ (List.getElem_mem hkl)
      have HLD : Hid (∀ W, Below w.heap.size w W → (Instr.loadAt 25 (.pointer (some ⟨blk, off + k * 10, none⟩))).run Try.prog W = .ok (.agg (bcs l[k]).toArray) W) := fun W hW => row_load (fun j hj => (hW.cell (p := ⟨blk, off + k * 10 + j, none⟩) hbl).trans (hc j hj))
      generalize l[k] = x at *
      have H16 : Hid (∀ W, Calls Try.prog 16 #[.agg (bcs x).toArray] W (KP (.bool (smB x.b)) W)) := fun W => rsmall x W
      obtain ⟨va, vc, hv, _⟩ := HZ.out.1.row
      subst hv
      clear hcs hc HQ HRW hkn
      cases hsm : smB x.b with
      | false =>
        rw [hsm] at H16
        have HL0 := HLD.out wr HZ.out.1.bel
        have HL1 : Hid ((Instr.loadAt 25 (.pointer (some ⟨blk, off + k * 10, none⟩))).run Try.prog wr = .ok (.agg (bcs x).toArray) wr) := HL0
        clear HLD HL0 hsm HXQ
        generalize (bcs x).toArray = Mx at *
        go_wp2_with (first | (guard_target =~ wpList _ _ _ (⟨_, Op.load 25 _, _, _, _, _⟩ :: _) _ _; refine wl_load _ rfl 25 _ rfl _ rfl _ HL1.out ?_; go_simp) | (go_at_call 16; refine (H16.out _).mono ?_; clear H16; rintro e w2 ⟨rfl, HB⟩; have HP2 : Hid (Pl w.heap.size w w2 (w.heap.size + 1) w.heap.size (.slice va ys.length vc) (ys.map (fun y : Bm => y.b)) ys k) := HZ.out.1.below HB.out; clear HB))
        go_roundw
        case rel => exact ⟨k + 1, ys, by omega, by omega, by simp, HP2.out.mono (Nat.le_succ k), HZ.out.2.mono (Nat.le_succ k)⟩
        case measure => simp [intOf]; omega
      | true =>
        rw [hsm] at H16
        have hsb : x.b.cuts.length ≤ 100 ∧ x.b.bar.length ≤ 100 := by unfold smB at hsm; simpa using hsm
        have HSB : Hid (x.b.cuts.length ≤ 100 ∧ x.b.bar.length ≤ 100) := hsb
        clear hsm hsb
        have HL0 := HLD.out wr HZ.out.1.bel
        have HL1 : Hid ((Instr.loadAt 25 (.pointer (some ⟨blk, off + k * 10, none⟩))).run Try.prog wr = .ok (.agg (bcs x).toArray) wr) := HL0
        clear HL0
        go_upto_region 7 with (first | (guard_target =~ wpList _ _ _ (⟨_, Op.load 25 _, _, _, _, _⟩ :: _) _ _; refine wl_load _ rfl 25 _ rfl _ rfl _ HL1.out ?_; go_simp) | (go_at_call 16; refine (H16.out _).mono ?_; clear H16; rintro e w2 ⟨rfl, HB⟩; have HP2 : Hid (Pl w.heap.size w w2 (w.heap.size + 1) w.heap.size (.slice va ys.length vc) (ys.map (fun y : Bm => y.b)) ys k) := HZ.out.1.below HB.out; clear HB))
        have HG : Hid (Gd (ys.map (fun y : Bm => y.b)) k) := HZ.out.2
        clear HL1 HZ
        have HC17 : Hid (Calls Try.prog 17 #[.slice va ys.length vc, .agg (bcs x).toArray] w2 (fun e w' => ∃ v' zs, e = .returned (.tuple #[v', .int .i64 (setE (ys.map (·.b)) x.b (bkE C0 x.b) : Nat)]) ∧ Hid (Pl w.heap.size w w' (w.heap.size + 1) w.heap.size v' (ys.map (fun y : Bm => y.b)) zs k ∧ zs.map (·.b) = setL (ys.map (·.b)) x.b (bkE C0 x.b) ∧ zs.length ≤ ys.length + 1))) := HP2.out.rset HG.out.1 (by have := HG.out.2.2; rw [List.length_map] at this; omega) x (HXQ.out.on HP2.out.bel) (by have := HSB.out; omega) (by have := HSB.out; omega)
        have HL0 := HLD.out w2 HP2.out.bel
        have HL2 : Hid ((Instr.loadAt 25 (.pointer (some ⟨blk, off + k * 10, none⟩))).run Try.prog w2 = .ok (.agg (bcs x).toArray) w2) := HL0
        clear HL0
        go_upto_region 9 with (first | (guard_target =~ wpList _ _ _ (⟨_, Op.load 25 _, _, _, _, _⟩ :: _) _ _; refine wl_load _ rfl 25 _ rfl _ rfl _ HL2.out ?_; go_simp) | (go_at_call 17; refine HC17.out.mono ?_; clear HC17; rintro e w3 ⟨v3, zs, rfl, HT⟩))
        have HP3 : Hid (Pl w.heap.size w w3 (w.heap.size + 1) w.heap.size v3 (ys.map (fun y : Bm => y.b)) zs k) := HT.out.1
        have HZM : Hid (zs.map (fun y : Bm => y.b) = setL (ys.map (fun y : Bm => y.b)) x.b (bkE C0 x.b)) := HT.out.2.1
        obtain ⟨za, zc, hzv, _⟩ := HP3.out.row
        subst hzv
        have HC18 : Hid (Calls Try.prog 18 #[.pointer (some ⟨w.heap.size + 1, 0, none⟩), .agg (bcs x).toArray] w3 (fun e w' => e = .returned (.int .i64 (setE (ys.map (fun y : Bm => y.b)) x.b (bkE C0 x.b) : Nat)) ∧ Hid (Pl w.heap.size w w' (w.heap.size + 1) w.heap.size (.slice za zs.length zc) (setL (ys.map (fun y : Bm => y.b)) x.b (bkE C0 x.b)) zs (k + 1)))) := HP3.out.set HG.out (by omega) x ((HXQ.out.on HP3.out.bel).mono HP3.out.size) (by have := HSB.out; omega) (by have := HSB.out; omega)
        have HG4 : Hid (Gd (setL (ys.map (fun y : Bm => y.b)) x.b (bkE C0 x.b)) (k + 1)) := HG.out.set x.b
        have HC19 : Hid (∀ W, Pl w.heap.size w W (w.heap.size + 1) w.heap.size (.slice za zs.length zc) (setL (ys.map (fun y : Bm => y.b)) x.b (bkE C0 x.b)) zs (k + 1) → Calls Try.prog 19 #[.pointer (some ⟨w.heap.size + 1, 0, none⟩), .slice za zs.length zc] W (BB true W)) := fun W hW => hW.shows HG4.out (by omega) HZM.out
        have HL0 := HLD.out w3 HP3.out.bel
        have HL3 : Hid ((Instr.loadAt 25 (.pointer (some ⟨blk, off + k * 10, none⟩))).run Try.prog w3 = .ok (.agg (bcs x).toArray) w3) := HL0
        clear HL0 HL2 HLD HP2 HP3 HT HG HXQ HSB
        generalize setL (ys.map (fun y : Bm => y.b)) x.b (bkE C0 x.b) = r2 at *
        have hne : ((setE (ys.map (fun y : Bm => y.b)) x.b (bkE C0 x.b) : Int) != (setE (ys.map (fun y : Bm => y.b)) x.b (bkE C0 x.b) : Int)) = false := by simp
        generalize setE (ys.map (fun y : Bm => y.b)) x.b (bkE C0 x.b) = E2 at *
        generalize (bcs x).toArray = Mx at *
        go_wp2_with (first | (guard_target =~ wpList _ _ _ (⟨_, Op.load 25 _, _, _, _, _⟩ :: _) _ _; refine wl_load _ rfl 25 _ rfl _ rfl _ HL3.out ?_; go_simp) | (go_at_call 18; refine HC18.out.mono ?_; clear HC18; rintro e w4 ⟨rfl, HP4⟩) | (go_at_call 19; refine (HC19.out _ HP4.out).mono ?_; clear HC19; rintro e w5 ⟨rfl, hb5⟩; have HP5 : Hid (Pl w.heap.size w w5 (w.heap.size + 1) w.heap.size (.slice za zs.length zc) r2 zs (k + 1)) := HP4.out.below hb5; clear hb5))
        go_roundw
        case rel => exact ⟨k + 1, zs, by omega, by omega, by simp, by rw [HZM.out]; exact HP5.out, by rw [HZM.out]; exact HG4.out⟩
        case measure => simp [intOf]; omega
    · have HB : Hid (Below w.heap.size w wr) := HZ.out.1.bel
      clear HZ
      by_cases hkl : k < l.length
      · have hkz : (k : Int) < (l.length : Int) := by omega
        have hk80 : ¬ (k : Int) < 80 := by omega
        go_wp2_with (go_at_call 9; refine (K9.out _).mono ?_; rintro e wz ⟨rfl, HBz⟩; have Kz : Hid (Below w.heap.size w wz) := HB.out.trans (HBz.mono HB.out.size); clear HBz)
        go_ret
        exact ⟨rfl, Kz.out⟩
      · have hkz : ¬ (k : Int) < (l.length : Int) := by omega
        go_wp2_with (go_at_call 9; refine (K9.out _).mono ?_; rintro e wz ⟨rfl, HBz⟩; have Kz : Hid (Below w.heap.size w wz) := HB.out.trans (HBz.mono HB.out.size); clear HBz)
        go_ret
        exact ⟨rfl, Kz.out⟩
end Go.Proofs.Ytmjaijpikbdfkaa
