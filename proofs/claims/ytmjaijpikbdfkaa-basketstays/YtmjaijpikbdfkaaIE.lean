/- layer 14: all rules of a book -/
import Derived.Test.YtmjaijpikbdfkaaID
import Derived.WalkKit
import Derived.ProofKit
import Derived.Handy
import Derived.WalkLawsBesides
import Derived.WalkSpells
import Derived.BigQuiet
import Derived.BigCall
import Derived.Deep.QuietTactic
import Derived.Deep.Light
import Derived.Deep.OwnRows
import Derived.Laws.AppendOwnNone
import Derived.Laws.Strings3
import Derived.Laws.RangeAny
import Derived.Deep.RegionWith
import Derived.Lib.BitFns
import Derived.Lib.Walk
import Derived.Lib.Strings
import Derived.Lib.OthersKept
import Derived.Deep.CutBlock
import Derived.Deep.DeepCutAuto
import Derived.Deep.LoopGhost
import Derived.Deep.RegionHeld3
import Derived.Lib.SmallJoins
import Derived.Maps.AppendAt
import Derived.Laws.IdiomStrings
import Derived.Lib.AppendZeros
import Derived.Deep.WholeRow
import Derived.Laws.BitsAllLaws
import Derived.Lib.ConvBytes
import Derived.Deep.RegionLaw
import Derived.Maps.OwnSet
import Derived.Maps.OwnOps
import Derived.Maps.RangeWalk
import Derived.Maps.Ext
import Derived.DeepKeys4
import Derived.Laws.StructEq
import Derived.Deep.MidRow
import Derived.Lib.Bytealg
import Derived.Lib.Overlaps
import Derived.Lib.AppendZerosOnto
import Derived.Laws.MakeOwn
import Derived.Deep.Upon
import Derived.Sort.OwnSortedInts
namespace Go.Proofs.Ytmjaijpikbdfkaa
open Go.RowKit
set_option linter.unusedVariables false
set_option linter.unusedSimpArgs false
set_option maxRecDepth 20000
theorem Nb.mono {B C : Nat} {w : World} {v : Value} {ys : List Bm} (h : Nb B w v ys) (hC : C ≤ B) : Nb C w v ys := ⟨own_mono h.o hC, fun y hy => (h.h y hy).mono (fun k hk => Nat.le_trans hC hk)⟩
/-- all that is known of a book's rules -/
structure Gr (L : List En) (r : List Bk) : Prop where
  rl : Rel L r
  s : Srt r
  e : ∀ b ∈ r, bkE C0 b = 0
  l : L.length ≤ 1000000
  n : r.length ≤ 1000000
theorem flat_snoc' (S : List Int) (r : List Bk) {k : Nat} (hk : k < S.length) : (S.take k).flatMap (of r) ++ of r S[k] = (S.take (k + 1)).flatMap (of r) := by
  rw [← List.take_append_getElem hk, List.flatMap_append]
  simp
set_option maxHeartbeats 8000000 in
theorem xall {F : Nat → Prop} {w : World} {p m : Nat} {L : List En} {r : List Bk} (h : Bo F w p m L) (g : Gr L r) : Calls Try.prog 27 #[.pointer (some ⟨p, 0, none⟩)] w (AaP r w) := by
  have HI : Hid (Calls Try.prog 30 #[.pointer (some ⟨p, 0, none⟩)] w (IdP (ids r) w)) := xids h g.rl g.s g.l
  have HO : Hid (Bo F w p m L) := h
  have HG : Hid (Gr L r) := g
  have hSl : (ids r).length ≤ 1000000 := Nat.le_trans (ids_len r) g.n
  have HAll : Hid ((ids r).flatMap (of r) = r) := all_ids g.s
  have HM : Hid (∀ n ∈ ids r, ∃ e ∈ L, e.id = n) := fun n hn => by
    obtain ⟨b, hb, rfl⟩ := (ids_mem g.s n).1 hn
    exact g.rl.all b hb
  generalize ids r = S at *
  clear h g
  go_enter Try.func27, Try.ntmps27
  go_wp2_with (go_at_call 30; refine HI.out.mono ?_; clear HI; rintro e w1 ⟨sa, sc, rfl, HZ1⟩)
  obtain ⟨sa', sc', e0, _, hsr⟩ := own_rw ics_len HZ1.out.1 rfl
  injection e0 with e1 e2 e3
  subst e1
  have HS : Hid (Rw 1 ics w1 sa S) := hsr
  have HB1 : Hid (Below w.heap.size w w1) := HZ1.out.2
  have HO1 : Hid (Bo F w1 p m L) := HO.out.below HZ1.out.2
  clear e2 e3 hsr HZ1 HO
  go_loopw [3, 9] (fun v i wr => ∃ (k : Nat) (ys : List Bm), k ≤ S.length ∧ i = .int .i64 k ∧ Hid (ys.map (·.b) = (S.take k).flatMap (of r) ∧ Nb w1.heap.size wr v ys ∧ Below w1.heap.size w1 wr))
    (fun _ i _ => S.length - (intOf i).toNat)
  case atStart => exact ⟨0, [], Nat.zero_le _, rfl, rfl, Nb.nil _ _, Below.refl _ _⟩
  case round =>
    obtain ⟨k, ys, hk, rfl, HZ⟩ := hrel
    by_cases hkn : k < S.length
    · have hkz : (k : Int) < (S.length : Int) := by omega
      obtain ⟨blk, off, rfl, hbl, hcs⟩ := HS.out (by omega)
      have hc := hcs k hkn 0 (by omega)
      obtain ⟨en, hen, heid⟩ := HM.out S[k] (List.getElem_mem hkn)
      have HT : Hid (ys.map (·.b) ++ of r S[k] = (S.take (k + 1)).flatMap (of r)) := by unfold Hid; rw [HZ.out.1]; exact flat_snoc' S r hkn
      have hb : Below w1.heap.size w1 wr := HZ.out.2.2
      have c0 : wr.cell? ⟨blk, off + k, none⟩ = some (.int .i64 S[k]) := by
        have := (hb.cell (p := ⟨blk, off + k * 1 + 0, none⟩) hbl).trans hc
        rw [Nat.mul_one, Nat.add_zero] at this
        exact this
      have hO := HO1.out.below hb
      have hwf : Wf S[k] := by rw [← heid]; exact hO.wf hen
      obtain ⟨xs, hh⟩ := hO.has S[k]
      obtain ⟨hown, hxx⟩ := hh.own hO
      have hxm : xs.map (·.b) = of r S[k] := HG.out.rl.has hh
      obtain ⟨a, cap, hv, _, hrw⟩ := own_rw bcs_len hown.1 rfl
      have HOF : Hid (Calls Try.prog 43 #[.pointer (some ⟨p, 0, none⟩), .int .i64 S[k]] wr fun e w' => e = .returned (.slice a xs.length cap) ∧ wr = w') := by unfold Hid; rw [← hv]; exact xof hO S[k] hwf
      have hxl : xs.length ≤ 1000000 := by
        have h1 := congrArg List.length hxm
        rw [List.length_map] at h1
        have h2 := of_len r S[k]
        have h3 := HG.out.n
        omega
      have hyl : ys.length ≤ 1000000 * S.length := by
        have h1 := congrArg List.length HZ.out.1
        rw [List.length_map] at h1
        have h2 : ((S.take k).flatMap (of r)).length ≤ ((S.take k).length) * 1000000 := by
          generalize S.take k = Q
          induction Q with
          | nil => simp
          | cons q Q ih =>
            have h3 := of_len r q
            have h4 := HG.out.n
            simp only [List.flatMap_cons, List.length_append, List.length_cons]
            omega
        rw [List.length_take] at h2
        have h5 : min k S.length * 1000000 ≤ S.length * 1000000 := Nat.mul_le_mul_right _ (Nat.min_le_right _ _)
        omega
      have HAA : Hid (Calls Try.prog 48 #[.slice a xs.length cap] wr fun e w' => ∃ a2 n2 c2, e = .returned (.slice a2 n2 c2) ∧ Hid (∃ v' w4 zs, (Builtin.append_ #[34, 34] 34 #[u3, .slice a2 n2 c2]).run Try.prog w' = .ok v' w4 ∧ zs.map (·.b) = (S.take (k + 1)).flatMap (of r) ∧ Nb w1.heap.size w4 v' zs ∧ Below w1.heap.size w1 w4)) := (xallap xs a cap wr hrw (fun x hx => ⟨(hxx x hx).ha, by
          have hb0 : x.b ∈ of r S[k] := by rw [← hxm]; exact List.mem_map.2 ⟨x, hx, rfl⟩
          exact sm_of (HG.out.e _ (of_mem hb0).1)⟩) hxl).mono fun e w' hh2 => by
        obtain ⟨v2, zs, rfl, hz⟩ := hh2
        obtain ⟨hzm, hzn, hzb⟩ := hz.out
        obtain ⟨a2, c2, rfl, _, hzr⟩ := hzn.rw
        refine ⟨a2, _, c2, rfl, ?_⟩
        have hn1 := HZ.out.2.1.below hzb
        have hw := hb.trans (hzb.mono hb.size)
        have hzl : zs.length = xs.length := by have := congrArg List.length hzm; simpa using this
        obtain ⟨v', w4, hr4, ho4, hg4, hv4⟩ := app_all (T := 25) (Sl := 34) (k := 10) (bytes := 120) Try.underlying34 info25 rfl (by omega) bcs_len bcs_one hn1.o hw.size a2 c2 zs hzr (by rw [hzl]; omega) (by rw [hzl]; unfold maxLen; omega)
        refine ⟨v', w4, ys ++ zs, hr4, ?_, ⟨?_, fun z hz => ?_⟩, ?_⟩
        · rw [List.map_append, hzm, hxm]; exact HT.out
        · rw [List.length_append]
          have e9 : rcs bcs (ys ++ zs) = rcs bcs ys ++ rcs bcs zs := by simp [rcs]
          rw [e9]
          exact ho4
        · rcases List.mem_append.1 hz with hz | hz
          · exact (hn1.h z hz).grow hn1.o hg4
          · exact ((hzn.h z hz).mono (fun j hj => Nat.le_trans hb.size hj)).grow hn1.o hg4
        · exact hw.grown hg4 hw.size (fun j hj => (hn1.o.lt j hj).1)
      generalize S[k] = id at *
      generalize xs.length = xl at *
      clear hcs hc hen heid hb hO hwf hh hown hxx hxm hv hrw HZ hxl hyl HM HS HAll HG
      go_wp2_with (first | (go_at_call 43; refine HOF.out.mono ?_; clear HOF; rintro e w3 ⟨rfl, rfl⟩) | (go_at_call 48; refine HAA.out.mono ?_; clear HAA; rintro e w3 ⟨a2, n2, c2, rfl, HF⟩; obtain ⟨v4, w4, zs, hr4, hf1, hf2, hf3⟩ := HF.out; have HF4 : Hid (zs.map (·.b) = (S.take (k + 1)).flatMap (of r) ∧ Nb w1.heap.size w4 v4 zs ∧ Below w1.heap.size w1 w4) := ⟨hf1, hf2, hf3⟩; clear hf1 hf2 hf3 HF) | (at_builtin; refine Lib.wpList_append_run _ rfl _ _ 34 34 rfl _ _ rfl rfl _ w4 hr4 ?_))
      go_roundw
      case rel => exact ⟨k + 1, zs, by omega, by simp, HF4.out⟩
      case measure => simp [intOf]; omega
    · have hkz : ¬ (k : Int) < (S.length : Int) := by omega
      have HF : Hid (AaP r w (.returned u3) wr) := by
        have hz := HZ.out
        rw [show k = S.length by omega, List.take_length, HAll.out] at hz
        exact ⟨u3, ys, rfl, hz.1, hz.2.1.mono HB1.out.size, HB1.out.trans (hz.2.2.mono HB1.out.size)⟩
      clear HZ
      go_wp2_with fail
      go_ret
      exact HF.out
end Go.Proofs.Ytmjaijpikbdfkaa
