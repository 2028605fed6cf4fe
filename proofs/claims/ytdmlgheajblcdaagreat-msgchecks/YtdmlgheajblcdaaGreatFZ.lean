/- The reference's Check. -/
import Derived.Test.YtdmlgheajblcdaaGreatFR
import Derived.Test.YtdmlgheajblcdaaGreatFJ
import Derived.WalkKit
import Derived.ProofKit
import Derived.Handy
import Derived.WalkLawsBesides
import Derived.WalkSpells
import Derived.BigQuiet
import Derived.BigCall
import Derived.Deep.QuietTactic
import Derived.Deep.Light
import Derived.Deep.OwnRows
import Derived.Laws.AppendOwnNone
import Derived.Laws.Strings3
import Derived.Laws.RangeAny
import Derived.Deep.RegionWith
import Derived.Lib.BitFns
import Derived.Lib.Walk
import Derived.Lib.Strings
import Derived.Lib.OthersKept
import Derived.Deep.CutBlock
import Derived.Deep.DeepCutAuto
import Derived.Deep.LoopGhost
import Derived.Deep.RegionHeld3
import Derived.Lib.SmallJoins
import Derived.Maps.AppendAt
import Derived.Laws.IdiomStrings
import Derived.Lib.AppendZeros
import Derived.Deep.WholeRow
import Derived.Laws.BitsAllLaws
import Derived.Lib.ConvBytes
import Derived.Deep.RegionLaw
import Derived.Lib.IndexBytes
namespace Go.Proofs.YtdmlgheajblcdaaGreat.N4
open Go.RowKit
set_option linter.unusedVariables false
set_option linter.unusedSimpArgs false
theorem cs_at {l : List UInt8} {k : Nat} (h : k < (cs l 0).length) : Vl ((cs l 0).getD k 0) := by
  rw [List.getD_eq_getElem?_getD, List.getElem?_eq_getElem h]
  exact cs_V l 0 _ (List.getElem_mem h)
theorem chkG_at (l : List UInt8) (z k a : Nat) (hk : k < (cs l 0).length) : chkG z ((sg l 0).drop k) k a = if k = 40 then ((ps l 0).getD k 0, 2) else if Bad k a ((cs l 0).getD k 0) then ((ps l 0).getD k 0, 11) else chkG z ((sg l 0).drop (k + 1)) (k + 1) ((cs l 0).getD k 0) := by
  have hk2 : k < (sg l 0).length := by simpa [cs] using hk
  have e1 : (cs l 0).getD k 0 = (sg l 0)[k].2.1 := by simp [cs, List.getD_eq_getElem?_getD, hk2]
  have e2 : (ps l 0).getD k 0 = (sg l 0)[k].1 := by simp [ps, List.getD_eq_getElem?_getD, hk2]
  rw [e1, e2, List.drop_eq_getElem_cons hk2, chkG]
def lst (xs : List Nat) (k : Nat) : Nat := if k = 0 then 0 else xs.getD (k - 1) 0
theorem lst_zero (xs : List Nat) : lst xs 0 = 0 := rfl
theorem lst_succ (xs : List Nat) (k : Nat) : lst xs (k + 1) = xs.getD k 0 := by
  unfold lst
  rw [if_neg (by omega)]
  rfl
set_option maxRecDepth 100000 in
set_option maxHeartbeats 4000000 in
theorem rcheck (s : ByteArray) (hs : s.size ≤ 9223372036854775807) (w : World) : Calls Tryz.prog 72 #[.string s] w (TB (chk s.data.toList) w) := by
  have HL : Hid (s.data.toList.length = s.size) := rfl
  by_cases hz : 160 < s.size
  · have hz' : 160 < (s.size : Int) := by omega
    have H : Hid (chk s.data.toList = (0, 2)) := by
      unfold Hid chk
      rw [if_pos (by rw [HL.out]; exact hz)]
    clear hz
    go_enter Tryz.func72, Tryz.ntmps72
    go_wp2_with fail
    go_ret2
    exact TB.mk (by rw [H.out]; rfl) (by rw [H.out]; rfl) (Below.refl _ _)
  have hz' : ¬ 160 < (s.size : Int) := by omega
  have H : Hid (chkG s.data.toList.length ((sg s.data.toList 0).drop 0) 0 0 = chk s.data.toList) := by
    unfold Hid chk
    rw [if_neg (by rw [HL.out]; exact hz), List.drop_zero]
  have hz2 : s.size ≤ 160 := by omega
  clear hz
  go_enter Tryz.func72, Tryz.ntmps72
  go_wp2_with fail
  refine (rsigns s (by omega) _).mono ?_
  rintro e W1 ⟨v1, v2, rfl, hs1, hs2, hb1⟩
  obtain ⟨a1, cap, rfl, hsg1⟩ := hs1
  obtain ⟨a2, cap2, rfl, hsg2⟩ := hs2
  have HSG1 : Hid _ := hsg1
  have HSG2 : Hid _ := hsg2
  have HB1 : Hid (Below w.heap.size w W1) := hb1
  have hcl : (cs s.data.toList 0).length ≤ s.size := cs_len s.data.toList
  have HV : Hid (∀ k, k < (cs s.data.toList 0).length → Vl ((cs s.data.toList 0).getD k 0)) := fun k hk => cs_at hk
  have HPL : Hid ((ps s.data.toList 0).length = (cs s.data.toList 0).length) := (cs_ps _ _).symm
  have HG : Hid (∀ k a, k < (cs s.data.toList 0).length → chkG s.data.toList.length ((sg s.data.toList 0).drop k) k a = if k = 40 then ((ps s.data.toList 0).getD k 0, 2) else if Bad k a ((cs s.data.toList 0).getD k 0) then ((ps s.data.toList 0).getD k 0, 11) else chkG s.data.toList.length ((sg s.data.toList 0).drop (k + 1)) (k + 1) ((cs s.data.toList 0).getD k 0)) := fun k a hk => chkG_at _ _ k a hk
  have HGL : Hid ((sg s.data.toList 0).length = (cs s.data.toList 0).length) := by unfold Hid cs; simp
  clear hsg1 hsg2 hb1
  rw [HPL.out] at HSG2 ⊢
  generalize cs s.data.toList 0 = xs at *
  generalize ps s.data.toList 0 = ys at *
  generalize sg s.data.toList 0 = gs at *
  generalize chk s.data.toList = X at *
  go_wp2_with fail
  go_loopw [7] (fun i wr => ∃ k : Nat, i = .int .i64 k ∧ k ≤ xs.length ∧ k ≤ 40 ∧ Hid (chkG s.data.toList.length (gs.drop k) k (lst xs k) = X) ∧ Hid (Below W1.heap.size W1 wr)) (fun i _ => xs.length - (Lib.intOf i).toNat)
  case atStart => exact ⟨0, rfl, Nat.zero_le _, Nat.zero_le _, H, Below.refl _ _⟩
  case round =>
    obtain ⟨k, rfl, hk, hk40, hch, hbr⟩ := hrel
    by_cases hkn : k < xs.length
    · have hkz : (k : Int) < (xs.length : Int) := by omega
      obtain ⟨b, rfl, hlt, hc⟩ := HSG1.out (by intro e; rw [e] at hkn; simp at hkn)
      obtain ⟨b2, rfl, hlt2, hc2⟩ := HSG2.out (by intro e; have h1 := HPL.out; rw [e] at h1; simp at h1; omega)
      have hck : wr.cell? ⟨b, k, none⟩ = some (.int .i64 ((xs.getD k 0 : Nat) : Int)) := (hbr.out.cell (by exact hlt)).trans (hc k hkn)
      have hpk : wr.cell? ⟨b2, k, none⟩ = some (.int .i64 ((ys.getD k 0 : Nat) : Int)) := (hbr.out.cell (by exact hlt2)).trans (hc2 k (by have := HPL.out; omega))
      have hv := (HV.out k hkn).le
      by_cases h40 : k = 40
      · subst h40
        have HX : Hid (X = (ys.getD 40 0, 2)) := by
          have h1 := hch.out
          rw [HG.out 40 _ hkn, if_pos rfl] at h1
          exact h1.symm
        clear hc hc2
        generalize ys.getD 40 0 = p at *
        generalize xs.getD 40 0 = c at *
        go_wp2_with fail
        go_ret2
        exact TB.mk (by rw [HX.out]) (by rw [HX.out]; rfl) (HB1.out.trans (hbr.out.mono HB1.out.size))
      have HX' : Hid (Bad k (lst xs k) (xs.getD k 0) → Hid (X = (ys.getD k 0, 11))) := by
        intro hb
        have h1 := hch.out
        rw [HG.out k _ hkn, if_neg h40, if_pos hb] at h1
        exact h1.symm
      have HN' : Hid (¬ Bad k (lst xs k) (xs.getD k 0) → Hid (chkG s.data.toList.length (gs.drop (k + 1)) (k + 1) (lst xs (k + 1)) = X)) := by
        intro hb
        have h1 := hch.out
        rw [HG.out k _ hkn, if_neg h40, if_neg hb] at h1
        rw [lst_succ]
        exact h1
      have hk39 : k < 40 := by omega
      clear h40 hch
      by_cases hk0 : k = 0
      · subst hk0
        clear hc hc2
        rw [lst_zero] at HX' HN'
        generalize ys.getD 0 0 = p at *
        generalize xs.getD 0 0 = c at *
        by_cases hle : Let c
        · have HN : Hid (chkG s.data.toList.length (gs.drop (0 + 1)) (0 + 1) (lst xs (0 + 1)) = X) := HN'.out (by rintro (⟨h2, _⟩ | ⟨h2, _⟩); exact h2 hle; omega)
          have HLe : Hid (Let c) := hle
          clear hle HN' HX'
          go_wp2_with (go_at_call 103; refine (calls_t (rletter c _) HLe.out).mono ?_; rintro e w2 ⟨rfl, rfl⟩)
          exact ⟨⟨_, by go_num, by omega, by omega, HN, hbr⟩, by simp [Lib.intOf]; omega⟩
        · have HX : Hid (X = (p, 11)) := HX'.out (Or.inl ⟨hle, Or.inl rfl⟩)
          have HLe : Hid (¬ Let c) := hle
          clear hle HN' HX'
          go_wp2_with (go_at_call 103; refine (calls_f (rletter c _) HLe.out).mono ?_; rintro e w2 ⟨rfl, rfl⟩)
          go_ret2
          exact TB.mk (by rw [HX.out]) (by rw [HX.out]; rfl) (HB1.out.trans (hbr.out.mono HB1.out.size))
      obtain ⟨j, rfl⟩ : ∃ j, k = j + 1 := ⟨k - 1, by omega⟩
      clear hk0
      have hcp : wr.cell? ⟨b, j, none⟩ = some (.int .i64 ((xs.getD j 0 : Nat) : Int)) := (hbr.out.cell (by exact hlt)).trans (hc j (by omega))
      rw [lst_succ xs j] at HX' HN'
      clear hc hc2
      generalize ys.getD (j + 1) 0 = p at *
      generalize xs.getD j 0 = a at *
      generalize xs.getD (j + 1) 0 = c at *
      have gk : ((j : Int) + 1 == 40) = false := beq_eq_false_iff_ne.2 (by omega)
      have gk0 : ((j : Int) + 1 == 0) = false := beq_eq_false_iff_ne.2 (by omega)
      by_cases h32 : c = 32
      · subst h32
        by_cases hja : Jnt a
        · have HJa : Hid (Jnt a) := hja
          by_cases h46 : a = 46
          · have HN : Hid _ := HN'.out (by rintro (⟨_, h2 | ⟨_, h2⟩⟩ | ⟨_, _, _, h2, _⟩); omega; exact h2 (by decide); exact h2 h46)
            have g46 : ((a : Int) != 46) = false := by rw [h46]; rfl
            clear hja HN' HX' h46
            go_wp2_with (first | (go_at_call 103; refine (calls_f (rletter 32 _) (by decide)).mono ?_; rintro e w2 ⟨rfl, rfl⟩) | (go_at_call 104; refine (calls_f (rdigit 32 _) (by decide)).mono ?_; rintro e w2 ⟨rfl, rfl⟩) | (go_at_call_of 105 (Value.int .i64 32); refine (calls_t (rjoint 32 _) (by decide)).mono ?_; rintro e w2 ⟨rfl, rfl⟩))
            refine (calls_t (rjoint a _) HJa.out).mono ?_
            rintro e w2 ⟨rfl, rfl⟩
            go_wp2_with fail
            exact ⟨⟨j + 1 + 1, by go_num, by omega, by omega, HN, hbr⟩, by simp [Lib.intOf]; omega⟩
          have g46 : ((a : Int) != 46) = true := by rw [bne_iff_ne]; omega
          by_cases h38 : a = 38
          · have HN : Hid _ := HN'.out (by rintro (⟨_, h2 | ⟨_, h2⟩⟩ | ⟨_, _, _, _, h2⟩); omega; exact h2 (by decide); exact h2 h38)
            have g38 : ((a : Int) != 38) = false := by rw [h38]; rfl
            clear hja HN' HX' h46 h38
            go_wp2_with (first | (go_at_call 103; refine (calls_f (rletter 32 _) (by decide)).mono ?_; rintro e w2 ⟨rfl, rfl⟩) | (go_at_call 104; refine (calls_f (rdigit 32 _) (by decide)).mono ?_; rintro e w2 ⟨rfl, rfl⟩) | (go_at_call_of 105 (Value.int .i64 32); refine (calls_t (rjoint 32 _) (by decide)).mono ?_; rintro e w2 ⟨rfl, rfl⟩))
            refine (calls_t (rjoint a _) HJa.out).mono ?_
            rintro e w2 ⟨rfl, rfl⟩
            go_wp2_with fail
            exact ⟨⟨j + 1 + 1, by go_num, by omega, by omega, HN, hbr⟩, by simp [Lib.intOf]; omega⟩
          have g38 : ((a : Int) != 38) = true := by rw [bne_iff_ne]; omega
          have HX : Hid (X = (p, 11)) := HX'.out (Or.inr ⟨by omega, rfl, hja, h46, h38⟩)
          clear hja HN' HX' h46 h38
          go_wp2_with (first | (go_at_call 103; refine (calls_f (rletter 32 _) (by decide)).mono ?_; rintro e w2 ⟨rfl, rfl⟩) | (go_at_call 104; refine (calls_f (rdigit 32 _) (by decide)).mono ?_; rintro e w2 ⟨rfl, rfl⟩) | (go_at_call_of 105 (Value.int .i64 32); refine (calls_t (rjoint 32 _) (by decide)).mono ?_; rintro e w2 ⟨rfl, rfl⟩))
          refine (calls_t (rjoint a _) HJa.out).mono ?_
          rintro e w2 ⟨rfl, rfl⟩
          go_wp2_with fail
          go_ret2
          exact TB.mk (by rw [HX.out]) (by rw [HX.out]; rfl) (HB1.out.trans (hbr.out.mono HB1.out.size))
        · have HJa : Hid (¬ Jnt a) := hja
          have HN : Hid _ := HN'.out (by rintro (⟨_, h2 | ⟨_, h2⟩⟩ | ⟨_, _, h2, _⟩); omega; exact h2 (by decide); exact hja h2)
          clear hja HN' HX'
          go_wp2_with (first | (go_at_call 103; refine (calls_f (rletter 32 _) (by decide)).mono ?_; rintro e w2 ⟨rfl, rfl⟩) | (go_at_call 104; refine (calls_f (rdigit 32 _) (by decide)).mono ?_; rintro e w2 ⟨rfl, rfl⟩) | (go_at_call_of 105 (Value.int .i64 32); refine (calls_t (rjoint 32 _) (by decide)).mono ?_; rintro e w2 ⟨rfl, rfl⟩))
          refine (calls_f (rjoint a _) HJa.out).mono ?_
          rintro e w2 ⟨rfl, rfl⟩
          go_wp2_with fail
          exact ⟨⟨j + 1 + 1, by go_num, by omega, by omega, HN, hbr⟩, by simp [Lib.intOf]; omega⟩
      · have g32 : ((c : Int) == 32) = false := beq_eq_false_iff_ne.2 (by omega)
        by_cases hle : Let c
        · have HLe : Hid (Let c) := hle
          have HN : Hid _ := HN'.out (by rintro (⟨h2, _⟩ | ⟨_, h2, _⟩); exact h2 hle; exact h32 h2)
          clear hle HN' HX' h32
          go_wp2_with (go_at_call 103; refine (calls_t (rletter c _) HLe.out).mono ?_; rintro e w2 ⟨rfl, rfl⟩)
          exact ⟨⟨j + 1 + 1, by go_num, by omega, by omega, HN, hbr⟩, by simp [Lib.intOf]; omega⟩
        have HLe : Hid (¬ Let c) := hle
        by_cases hdi : Dig c
        · have HDi : Hid (Dig c) := hdi
          have HN : Hid _ := HN'.out (by rintro (⟨_, h2 | ⟨h2, _⟩⟩ | ⟨_, h2, _⟩); omega; exact h2 hdi; exact h32 h2)
          clear hle hdi HN' HX' h32
          go_wp2_with (first | (go_at_call 103; refine (calls_f (rletter c _) HLe.out).mono ?_; rintro e w2 ⟨rfl, rfl⟩) | (go_at_call 104; refine (calls_t (rdigit c _) HDi.out).mono ?_; rintro e w2 ⟨rfl, rfl⟩))
          exact ⟨⟨j + 1 + 1, by go_num, by omega, by omega, HN, hbr⟩, by simp [Lib.intOf]; omega⟩
        have HDi : Hid (¬ Dig c) := hdi
        by_cases hjn : Jnt c
        · have HJn : Hid (Jnt c) := hjn
          have HN : Hid _ := HN'.out (by rintro (⟨_, h2 | ⟨_, h2⟩⟩ | ⟨_, h2, _⟩); omega; exact h2 hjn; exact h32 h2)
          clear hle hdi hjn HN' HX' h32
          go_wp2_with (first | (go_at_call 103; refine (calls_f (rletter c _) HLe.out).mono ?_; rintro e w2 ⟨rfl, rfl⟩) | (go_at_call 104; refine (calls_f (rdigit c _) HDi.out).mono ?_; rintro e w2 ⟨rfl, rfl⟩) | (go_at_call 105; refine (calls_t (rjoint c _) HJn.out).mono ?_; rintro e w2 ⟨rfl, rfl⟩))
          exact ⟨⟨j + 1 + 1, by go_num, by omega, by omega, HN, hbr⟩, by simp [Lib.intOf]; omega⟩
        · have HJn : Hid (¬ Jnt c) := hjn
          have HX : Hid (X = (p, 11)) := HX'.out (Or.inl ⟨hle, Or.inr ⟨hdi, hjn⟩⟩)
          clear hle hdi hjn HN' HX' h32
          go_wp2_with (first | (go_at_call 103; refine (calls_f (rletter c _) HLe.out).mono ?_; rintro e w2 ⟨rfl, rfl⟩) | (go_at_call 104; refine (calls_f (rdigit c _) HDi.out).mono ?_; rintro e w2 ⟨rfl, rfl⟩) | (go_at_call 105; refine (calls_f (rjoint c _) HJn.out).mono ?_; rintro e w2 ⟨rfl, rfl⟩))
          go_ret2
          exact TB.mk (by rw [HX.out]) (by rw [HX.out]; rfl) (HB1.out.trans (hbr.out.mono HB1.out.size))
    · have hkz : ¬ (k : Int) < (xs.length : Int) := by omega
      have hke : k = xs.length := by omega
      have HX : Hid (X = (s.size, if k = 0 ∨ lst xs k = 32 then 11 else 0)) := by
        have h1 := hch.out
        rw [List.drop_of_length_le (by rw [HGL.out]; omega), chkG] at h1
        exact h1.symm
      clear hch
      by_cases hk0 : k = 0
      · have HX0 : Hid (X = (s.size, 11)) := by
          have h1 := HX.out
          rw [if_pos (Or.inl hk0)] at h1
          exact h1
        have g0 : (((xs.length : Nat) : Int) == 0) = true := beq_iff_eq.2 (by omega)
        clear HX hk0 hke
        go_wp2_with fail
        go_ret2
        exact TB.mk (by rw [HX0.out]) (by rw [HX0.out]; rfl) (HB1.out.trans (hbr.out.mono HB1.out.size))
      · have g0 : (((xs.length : Nat) : Int) == 0) = false := beq_eq_false_iff_ne.2 (by omega)
        obtain ⟨j, rfl⟩ : ∃ j, k = j + 1 := ⟨k - 1, by omega⟩
        obtain ⟨b, rfl, hlt, hc⟩ := HSG1.out (by intro e; rw [e] at hke; simp at hke)
        have hcp : wr.cell? ⟨b, j, none⟩ = some (.int .i64 ((xs.getD j 0 : Nat) : Int)) := (hbr.out.cell (by exact hlt)).trans (hc j (by omega))
        rw [lst_succ] at HX
        clear hc
        generalize xs.getD j 0 = a at *
        have hjl : (xs.length : Int) - 1 = (j : Int) := by omega
        by_cases ha : a = 32
        · have HX0 : Hid (X = (s.size, 11)) := by
            have h1 := HX.out
            rw [if_pos (Or.inr ha)] at h1
            exact h1
          have ga : ((a : Int) == 32) = true := beq_iff_eq.2 (by omega)
          clear HX ha hk0 hke
          go_wp2_with fail
          go_ret2
          exact TB.mk (by rw [HX0.out]) (by rw [HX0.out]; rfl) (HB1.out.trans (hbr.out.mono HB1.out.size))
        · have HX0 : Hid (X = (s.size, 0)) := by
            have h1 := HX.out
            rw [if_neg (by rintro (h | h); exact hk0 h; exact ha h)] at h1
            exact h1
          have ga : ((a : Int) == 32) = false := beq_eq_false_iff_ne.2 (by omega)
          clear HX ha hk0 hke
          go_wp2_with fail
          go_ret2
          exact TB.mk (by rw [HX0.out]) (by rw [HX0.out]; rfl) (HB1.out.trans (hbr.out.mono HB1.out.size))
end Go.Proofs.YtdmlgheajblcdaaGreat.N4
