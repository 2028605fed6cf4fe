/- layer 16: sums; Sum, Open of the program -/
import Derived.Test.YtdfadcbchiogjaaGreatNJ
import Derived.Test.YtdfadcbchiogjaaGreatNB
import Derived.WalkKit
import Derived.ProofKit
import Derived.Handy
import Derived.WalkLawsBesides
import Derived.WalkSpells
import Derived.BigQuiet
import Derived.BigCall
import Derived.Deep.QuietTactic
import Derived.Deep.Light
import Derived.Deep.OwnRows
import Derived.Laws.AppendOwnNone
import Derived.Laws.Strings3
import Derived.Laws.RangeAny
import Derived.Deep.RegionWith
import Derived.Lib.BitFns
import Derived.Lib.Walk
import Derived.Lib.Strings
import Derived.Lib.OthersKept
import Derived.Deep.CutBlock
import Derived.Deep.DeepCutAuto
import Derived.Deep.LoopGhost
import Derived.Deep.RegionHeld3
import Derived.Lib.SmallJoins
import Derived.Maps.AppendAt
import Derived.Laws.IdiomStrings
import Derived.Lib.AppendZeros
import Derived.Deep.WholeRow
import Derived.Laws.BitsAllLaws
import Derived.Lib.ConvBytes
import Derived.Deep.RegionLaw
import Derived.Maps.OwnSet
import Derived.Maps.OwnOps
import Derived.Maps.RangeWalk
import Derived.Maps.Ext
import Derived.DeepKeys4
import Derived.Laws.StructEq
import Derived.Deep.MidRow
import Derived.Lib.Bytealg
import Derived.Lib.AppendZerosOnto
import Derived.Laws.MakeOwn
import Derived.Deep.Upon
import Derived.Sort.KeysCollected
namespace Go.Proofs.YtdfadcbchiogjaaGreat
open Go.RowKit
set_option linter.unusedVariables false
set_option linter.unusedSimpArgs false
set_option maxRecDepth 20000
open N1
def ics (n : Int) : List Value := [.int .i64 n]
theorem ics_len (n : Int) : (ics n).length = 1 := rfl
theorem rcs_ics (xs : List Int) : rcs ics xs = xs.map (Value.int .i64) := by
  induction xs with
  | nil => rfl
  | cons x r ih =>
    show ics x ++ rcs ics r = _
    rw [ih]
    rfl
theorem sum_nn {xs : List Int} (h : ∀ x ∈ xs, 0 ≤ x) : 0 ≤ xs.sum := by
  induction xs with
  | nil => simp
  | cons x r ih =>
    have h1 := h x (by simp)
    have h2 := ih (fun y hy => h y (List.mem_cons_of_mem _ hy))
    rw [List.sum_cons]
    omega
theorem sum_take {xs : List Int} (h : ∀ x ∈ xs, 0 ≤ x) (k : Nat) : (xs.take k).sum ≤ xs.sum := by
  have h1 := congrArg List.sum (List.take_append_drop k xs)
  rw [List.sum_append] at h1
  have h2 := sum_nn (xs := xs.drop k) (fun x hx => h x (List.mem_of_mem_drop hx))
  omega
def FsP (n : Int) (w : World) (e : Ending) (w' : World) : Prop := e = .returned (.tuple #[.int .i64 n, .int .i64 0]) ∧ w = w'
set_option maxHeartbeats 2000000 in
theorem xfsum {w : World} {a : Option Addr} {xs : List Int} {cap : Nat} (h : Rw 1 ics w a xs) (hn : ∀ x ∈ xs, 0 ≤ x) (hs : xs.sum ≤ 4611686018427387904) (hl : xs.length ≤ 1000000) : Calls Tryz.prog 63 #[.slice a xs.length cap] w (FsP xs.sum w) := by
  have HP : Hid (∀ (u v : Int), 0 ≤ u → 0 ≤ v → u + v ≤ 4611686018427387904 → ∀ w, Calls Tryz.prog 45 #[.int .i64 u, .int .i64 v] w fun e w' => e = .returned (.tuple #[.int .i64 (u + v), .int .i64 0]) ∧ w = w') := fun u v hu hv huv w => by
    have := xplus u v (by omega) (by omega) w
    rwa [show fitS (u + v) = u + v from if_pos (by omega), show fitE (u + v) = 0 from if_pos (by omega)] at this
  have HN : Hid (∀ k, 0 ≤ (xs.take k).sum ∧ (xs.take k).sum ≤ xs.sum) := fun k => ⟨sum_nn (fun x hx => hn x (List.mem_of_mem_take hx)), sum_take hn k⟩
  have HX : Hid (∀ k (hk : k < xs.length), 0 ≤ xs[k]) := fun k hk => hn _ (List.getElem_mem _)
  have HS : Hid (∀ k (hk : k < xs.length), (xs.take k).sum + xs[k] = (xs.take (k + 1)).sum) := fun k hk => by rw [← List.take_append_getElem hk, List.sum_append]; simp
  have HR : Hid (Rw 1 ics w a xs) := h
  have HE : Hid ((xs.take xs.length).sum = xs.sum) := by unfold Hid; rw [List.take_length]
  clear h hn
  go_enter Tryz.func63, Tryz.ntmps63
  go_wp2_with fail
  go_loopw [4, 11] (fun v i wr => ∃ k : Nat, k ≤ xs.length ∧ i = .int .i64 k ∧ v = .int .i64 (xs.take k).sum ∧ wr = w)
    (fun _ i _ => xs.length - (intOf i).toNat)
  case atStart => exact ⟨0, Nat.zero_le _, rfl, by simp, rfl⟩
  case round =>
    obtain ⟨k, hk, rfl, rfl, rfl⟩ := hrel
    by_cases hkn : k < xs.length
    · obtain ⟨blk, off, rfl, hbl, hcs⟩ := HR.out (by omega)
      have hc := hcs k hkn 0 (by omega)
      have hc2 : wr.cell? ⟨blk, off + k, none⟩ = some (.int .i64 xs[k]) := by simpa [ics] using hc
      have h1 := HN.out k
      have h2 := HX.out k hkn
      have h3 := HN.out (k + 1)
      have h4 := HS.out k hkn
      have HC : Hid (Calls Tryz.prog 45 #[.int .i64 (xs.take k).sum, .int .i64 xs[k]] wr fun e w' => e = .returned (.tuple #[.int .i64 ((xs.take k).sum + xs[k]), .int .i64 0]) ∧ wr = w') := HP.out _ _ h1.1 h2 (by omega) wr
      have HM : Hid (((xs.take k).sum + xs[k]) = (xs.take (k + 1)).sum) := h4
      clear hcs hc h1 h2 h3 h4 HP HN HX HS
      generalize (xs.take k).sum = s at *
      generalize xs[k] = x at *
      have hkz : (k : Int) < (xs.length : Int) := by omega
      go_wp2_with (go_at_call 45; refine HC.out.mono ?_; clear HC; rintro e w2 ⟨rfl, rfl⟩)
      go_roundw
      case rel => exact ⟨k + 1, by omega, by simp, by rw [HM.out], trivial⟩
      case measure => simp [intOf]; omega
    · have hke : k = xs.length := by omega
      have HF : Hid (FsP xs.sum wr (.returned (.tuple #[.int .i64 (xs.take k).sum, .int .i64 0])) wr) := by
        refine ⟨?_, rfl⟩
        rw [hke, HE.out]
      have hkz : ¬ (k : Int) < (xs.length : Int) := by omega
      clear HP HN HX HS hke HE
      generalize (xs.take k).sum = s at *
      go_wp2_with fail
      go_ret2
      exact HF.out
theorem xsum {w : World} {p m1 m2 k : Nat} {t : Tb} (h : Tm w p m1 m2 t) (g : Good t k) (hk : k ≤ 1000) : Calls Tryz.prog 35 #[.pointer (some ⟨p, 0, none⟩)] w (RmP (sm t.L) w) := by
  have gs := g.sum
  have gl := g.l
  have HL : Hid (Calls Tryz.prog 34 #[.pointer (some ⟨p, 0, none⟩)] w (BP false w)) := xlack h
  have c3 : w.cell? ⟨p, 3, none⟩ = some (.map (some m1)) := h.b.cell 3
  have HV : Hid (Calls Tryz.prog 64 #[.map (some m1)] w fun e w' => e = .returned (.func (.func 81) #[] #[.pointer (some ⟨w.heap.size, 0, none⟩)]) ∧ w' = w.alloc (.cells #[.map (some m1)] 73)) := xvalues (some m1) w
  have HC : Hid (Calls Tryz.prog 46 #[.func (.func 81) #[] #[.pointer (some ⟨w.heap.size, 0, none⟩)]] (w.alloc (.cells #[.map (some m1)] 73)) (fun e w' => ∃ a n cap, e = .returned (.slice a n cap) ∧ Hid (Below w.heap.size w w' ∧ Calls Tryz.prog 63 #[.slice a n cap] w' (FsP (sm t.L) w')))) := by
    refine (xcollect h.i (S := t.L.map (·.i)) (fun b hb => smI_src hb) (by rw [List.length_map]; omega)).mono fun e w' hh => ?_
    obtain ⟨v, K, rfl, hn, hm, hl, ho, hb⟩ := hh
    rw [← rcs_ics] at ho
    obtain ⟨a, cap, rfl, hc, hr⟩ := own_rw ics_len ho (by rw [List.length_map])
    have hsum : (K.map (smI t.L)).sum = sm t.L := sum_keys hn hm
    rw [List.length_map] at hl
    refine ⟨a, _, cap, rfl, ((Below.refl _ w).alloc (Nat.le_refl _) _).trans (hb.mono (by simp)), ?_⟩
    rw [← hsum]
    exact xfsum hr (fun x hx => by
      obtain ⟨n, _, rfl⟩ := List.mem_map.1 hx
      exact (g.i n).1) (by rw [hsum]; omega) (by rw [List.length_map]; omega)
  have HF : Hid (∀ w', Below w.heap.size w w' → RmP (sm t.L) w (.returned (.int .i64 (sm t.L))) w') := fun w' hb => ⟨rfl, hb⟩
  clear h g gs gl
  generalize sm t.L = s at *
  go_enter Tryz.func35, Tryz.ntmps35
  go_wp2_with (first | (go_at_call 34; refine HL.out.mono ?_; clear HL; rintro e w2 ⟨rfl, rfl⟩) | (go_at_call 64; refine HV.out.mono ?_; clear HV; rintro e w2 ⟨rfl, rfl⟩) | (go_at_call 46; refine HC.out.mono ?_; clear HC; rintro e w3 ⟨a, n, cap, rfl, HD⟩) | (go_at_call 63; refine HD.out.2.mono ?_; rintro e w4 ⟨rfl, rfl⟩))
  go_ret
  exact HF.out _ HD.out.1
theorem xopen {w : World} {p m1 m2 k : Nat} {t : Tb} (h : Tm w p m1 m2 t) (g : Good t k) (hk : k ≤ 1000) : Calls Tryz.prog 15 #[.pointer (some ⟨p, 0, none⟩)] w (RmP t.open w) := by
  have gs := g.sum
  have gl := g.l
  have gn := g.need
  have HL : Hid (Calls Tryz.prog 34 #[.pointer (some ⟨p, 0, none⟩)] w (BP false w)) := xlack h
  have c0 : w.cell? ⟨p, 0, none⟩ = some (.int .i64 t.need) := h.b.cell 0
  have HC : Hid (Calls Tryz.prog 35 #[.pointer (some ⟨p, 0, none⟩)] w.drew fun e w' => ∃ u, e = .returned u ∧ (u = .int .i64 (sm t.L) ∧ w'.cell? ⟨p, 0, none⟩ = some (.int .i64 t.need) ∧ Hid (Below w.heap.size w w'))) := (xsum h.drew g hk).mono fun e w' hh => ⟨_, hh.1, rfl, ((h.drew.below hh.2).b.cell 0), below_undrew hh.2⟩
  have hsub : wrap64 (t.need - sm t.L) = t.need - sm t.L := by unfold wrap64; omega
  have HF : Hid (∀ n w', (n = max 0 (t.need - sm t.L) ∨ n = max 0 (IntKind.i64.wrap (t.need - sm t.L))) → Below w.heap.size w w' → RmP t.open w (.returned (.int .i64 n)) w') := fun n w' hn hb => ⟨by rw [show IntKind.i64.wrap (t.need - sm t.L) = t.need - sm t.L from by rw [IntKind.wrap_i64]; omega] at hn; rw [show n = t.open from by unfold Tb.open; omega], hb⟩
  clear g gs gl gn
  go_enter Tryz.func15, Tryz.ntmps15
  go_wp2_with (go_at_call 34; refine HL.out.mono ?_; clear HL; rintro e w2 ⟨rfl, rfl⟩)
  clear h
  go_region_law (refine step_call _ (by rfl) 35 #[.pointer (some ⟨p, 0, none⟩)] (by go_simp) _ HC.out ?_; clear HC; rintro v9 w2 ⟨rfl, k0, HZ⟩)
  all_goals
    go_wp2_with fail
    go_ret
    exact HF.out _ _ (by first | exact .inl rfl | exact .inr rfl) HZ.out
end Go.Proofs.YtdfadcbchiogjaaGreat
