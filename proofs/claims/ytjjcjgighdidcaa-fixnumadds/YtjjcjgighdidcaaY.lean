/- The walk of the reference's Share. Conditions: the arguments are ints. -/
import Derived.Test.YtjjcjgighdidcaaG
import Derived.WalkKit
import Derived.ProofKit
import Derived.Handy
import Derived.WalkLawsBesides
import Derived.WalkSpells
import Derived.BigQuiet
import Derived.Deep.QuietTactic
import Derived.Deep.Light
import Derived.Deep.OwnRows
import Derived.Laws.AppendOwnNone
import Derived.Deep.RegionWith
import Derived.Lib.BitFns
import Derived.Lib.Walk
import Derived.Deep.CutBlock
import Derived.Deep.DeepCutAuto
import Derived.Deep.LoopGhost
namespace Go.Proofs.Ytjjcjgighdidcaa
open Go.RowKit
set_option linter.unusedVariables false
set_option linter.unusedSimpArgs false
def RMulDivSaid : Prop := ∀ (a b c how : Int), (-9223372036854775808 ≤ a ∧ a ≤ 9223372036854775807) → (-9223372036854775808 ≤ b ∧ b ≤ 9223372036854775807) → (-9223372036854775808 ≤ c ∧ c ≤ 9223372036854775807) → ∀ w : World,
  Calls Try.prog 25 #[.int .i64 a, .int .i64 b, .int .i64 c, .int .i64 how] w (MulDivPost a b c how w)

theorem rshare_empty (amount : Int) (a : Option Addr) (cap : Nat) (w : World) (ha : -9223372036854775808 ≤ amount ∧ amount ≤ 9223372036854775807) :
    Calls Try.prog 33 #[.int .i64 amount, .slice a 0 cap] w (SharePost amount [] w) := by
  have hsum := rsum [] (.slice a 0 cap) w ⟨by intro j; simp, by decide⟩ ⟨a, cap, rfl, fun h => absurd rfl h⟩
  by_cases h1 : amount < 0
  · have H1 : Hid (shareE amount [] = 1) := if_pos (Or.inl h1)
    clear hsum
    go_enter Try.func33, Try.ntmps33
    go_wp2
    go_ret2
    exact share_bad amount [] w w 1 (by decide) H1.out (Below.refl _ _)
  have H6 : Hid (shareE amount [] = 6) := by
    show shareE amount [] = 6
    rw [shareE, if_neg (by rw [show goodB [] = true from rfl]; simp; omega), if_neg (by simp [sumE]), show sumS 0 [] = 0 from rfl, if_pos rfl]
  have HS : Hid (Calls Try.prog 31 #[.slice a 0 cap] w (SumPost [] w)) := hsum
  clear hsum
  go_enter Try.func33, Try.ntmps33
  go_wp2_with fail
  refine wp_loop_rounds 1 ?_
  rw [rounds_succ]
  go_wp2_with fail
  refine Calls.mono HS.out ?_
  rintro e w1 ⟨rfl, rfl⟩
  rw [show sumS 0 [] = 0 from rfl, show sumE 0 [] = 0 from rfl]
  go_wp2
  go_ret2
  exact share_bad amount [] w w 6 (by decide) H6.out (Below.refl _ _)

theorem rshare_row (amount : Int) (xs : List Int) (b off cap : Nat) (w : World) (ha : -9223372036854775808 ≤ amount ∧ amount ≤ 9223372036854775807) (hx : Ints xs) (hbw : b < w.heap.size) (hne : xs ≠ []) (HM : RMulDivSaid) (hc : ∀ j, j < xs.length → w.cell? ⟨b, off + j, none⟩ = some (.int .i64 (xs.getD j 0))) :
    Calls Try.prog 33 #[.int .i64 amount, .slice (some ⟨b, off, none⟩) xs.length cap] w (SharePost amount xs w) := by
  by_cases h1 : amount < 0
  · have H1 : Hid (shareE amount xs = 1) := if_pos (Or.inl h1)
    clear hx hc
    go_enter Try.func33, Try.ntmps33
    go_wp2
    go_ret2
    exact share_bad amount xs w w 1 (by decide) H1.out (Below.refl _ _)
  by_cases h2 : 64 < xs.length
  · have H1 : Hid (shareE amount xs = 1) := if_pos (Or.inr (goodB_long xs h2))
    have h2' : (64 : Int) < xs.length := by omega
    have hl := hx.2
    clear hx hc
    go_enter Try.func33, Try.ntmps33
    go_wp2
    go_ret2
    exact share_bad amount xs w w 1 (by decide) H1.out (Below.refl _ _)
  have h2' : ¬ (64 : Int) < xs.length := by omega
  have hl63 : xs.length ≤ 9223372036854775807 := by omega
  have hseg : Seg w (.slice (some ⟨b, off, none⟩) xs.length cap) xs := ⟨_, _, rfl, fun _ => ⟨b, off, rfl, hbw, hc⟩⟩
  have hmk := run_make_row' (P := Try.prog) 52 3 (.int .i64 0) 8 Try.underlying52 Try.info3 rfl .i64 .i64 xs.length (by omega) hl63
  have HX : Hid (Ints xs) := hx
  have HV : Hid (Seg w (.slice (some ⟨b, off, none⟩) xs.length cap) xs) := hseg
  have HC : Hid _ := hc
  clear hx hseg hc hne
  go_enter Try.func33, Try.ntmps33
  go_wp2_with fail
  go_loop [6] (fun i => ∃ k : Nat, k ≤ xs.length ∧ i = .int .i64 k ∧ Hid (∀ j, j < k → 0 ≤ xs.getD j 0))
    (fun i => xs.length - (intOf i).toNat)
  case atStart => exact ⟨0, by omega, rfl, fun j hj => by omega⟩
  case round =>
    obtain ⟨k, hk, rfl, hs⟩ := hrel
    have hcell : k < xs.length → w.cell? ⟨b, off + k, none⟩ = some (.int .i64 (xs.getD k 0)) := fun _ => HC.out k (by omega)
    generalize hxk : xs.getD k 0 = x at hcell
    have Hx : Hid _ := hxk
    clear hxk
    by_cases hlt : k < xs.length
    · have hlt' : (k : Int) < xs.length := by omega
      by_cases hn : x < 0
      · have H1 : Hid (shareE amount xs = 1) := if_pos (Or.inr (goodB_neg xs k hlt (by rw [Hx.out]; exact hn)))
        go_wp2_with fail
        go_ret2
        exact share_bad amount xs w w 1 (by decide) H1.out (Below.refl _ _)
      · go_wp2_with fail
        refine ⟨⟨k + 1, hlt, by go_num, fun j hj => ?_⟩, by simp [intOf]; omega⟩
        by_cases h : j = k
        · subst h; rw [Hx.out]; omega
        · exact hs.out j (by omega)
    · obtain rfl : k = xs.length := by omega
      clear hcell
      have hgood : goodB xs = true := goodB_all xs (by omega) hs.out
      have HG : Hid (goodB xs = true) := hgood
      clear hgood
      go_wp2_with fail
      refine (rsum xs _ _ HX.out HV.out).mono ?_
      rintro e w1 ⟨rfl, rfl⟩
      by_cases h3 : sumE 0 xs = 0
      · by_cases h4 : sumS 0 xs = 0
        · have H1 : Hid (shareE amount xs = 6) := by rw [shareE, if_neg (by rw [HG.out]; simp; omega), if_neg (by omega), if_pos h4]; rfl
          rw [h3, h4]
          clear h3 h4
          go_wp2
          go_ret2
          exact share_bad amount xs w w 6 (by decide) H1.out (Below.refl _ _)
        · have HE3 : Hid (sumE 0 xs = 0) := h3
          have HE4 : Hid (sumS 0 xs ≠ 0) := h4
          rw [h3]
          clear h3 h4
          have hTr := sumS_range 0 xs (by omega)
          obtain ⟨h64, hpos⟩ := goodB_iff xs HG.out
          have hmem : ∀ x ∈ xs, 0 ≤ x := by
            intro x hx
            obtain ⟨j, hj, rfl⟩ := List.mem_iff_getElem.1 hx
            have := hpos j
            simpa [hj] using this
          have hTs : sumS 0 xs = xs.sum := by rw [sum_ok 0 xs HE3.out]; omega
          have hT : 0 < sumS 0 xs := by have := sum_nonneg xs hmem; have := HE4.out; omega
          have ha1 : 0 ≤ amount ∧ amount ≤ 9223372036854775807 := by omega
          have HP : Hid _ := hpos
          have HMm : Hid _ := hmem
          clear hpos hmem
          generalize hTT : sumS 0 xs = T at hT hTr hTs
          have HTT : Hid _ := hTT
          have HTs : Hid _ := hTs
          have hT0 : (T == 0) = false := by simp; omega
          clear hTT hTs hs
          go_wp2_with fail
          go_loopw [10, 11] (fun li i wr => ∃ k : Nat, ∃ t : Int, k ≤ xs.length ∧ i = .int .i64 k ∧ li = .int .i64 t ∧ (0 ≤ t ∧ t ≤ amount) ∧ Hid (ShareRel amount T xs w.heap.size w k t wr))
            (fun _ i _ => xs.length - (intOf i).toNat)
          case atStart =>
            refine ⟨0, amount, by omega, rfl, rfl, by omega, ?_, Nat.le_refl _, Below.alloc (Below.refl _ _) (Nat.le_refl _) _, by simp⟩
            rw [made_zeros]
            simpa using Row.new w (List.replicate xs.length 0) .i64 3
          case round =>
            obtain ⟨k, t, hk, rfl, rfl, ht, hs⟩ := hrel
            by_cases hlt : k < xs.length
            · have hlt' : (k : Int) < xs.length := by omega
              have hcell := (hs.out.2.2.1.cell (p := ⟨b, off + k, none⟩) hbw).trans (HC.out k hlt)
              have hxk0 : xs.getD k 0 ∈ xs := by simp [hlt]
              have hxT : 0 ≤ xs.getD k 0 ∧ xs.getD k 0 ≤ T := ⟨HP.out k, by rw [HTs.out]; exact mem_le_sum xs HMm.out _ hxk0⟩
              have hstep : Hid (0 ≤ amount * xs.getD k 0 / T ∧ 0 ≤ t - amount * xs.getD k 0 / T) := by
                have h1 := hs.out.2.2.2
                have hlen : (parts amount T xs).length = xs.length := by simp [parts]
                have hget : (parts amount T xs).getD k 0 = amount * xs.getD k 0 / T := by simp [parts, hlt]
                have h2 : ((parts amount T xs).take (k + 1)).sum ≤ amount := by
                  rw [parts_take]
                  refine parts_le amount T ha1.1 hT _ (fun x hx => HMm.out x (List.mem_of_mem_take hx)) ?_
                  rw [HTs.out]
                  exact sum_part xs HMm.out (k + 1)
                rw [take_getD _ k (by omega), hget, List.sum_append] at h2
                simp only [List.sum_cons, List.sum_nil] at h2
                exact ⟨Int.ediv_nonneg (Int.mul_nonneg ha1.1 (HP.out k)) (by omega), by omega⟩
              clear hxk0
              generalize hxk : xs.getD k 0 = x at hcell hxT hstep
              have Hx : Hid _ := hxk
              clear hxk
              go_wp2_with fail
              refine (HM amount x T 1 (by omega) (by omega) (by omega) _).mono ?_
              rintro e w1 ⟨rfl, hb1⟩
              rw [part_md amount x T ha1 hxT hT]
              have h8 := hstep.out
              have hst := ShareRel.step hs.out hlt hb1
              obtain ⟨⟨u, hcu⟩, hfu⟩ := ShareRel.cell hs.out hlt hb1
              rw [Hx.out] at hst
              generalize amount * x / T = p at h8 hst
              have Hst : Hid (ShareRel amount T xs w.heap.size w (k + 1) (t - p) (w1.setCell ⟨w.heap.size, k, none⟩ (.int .i64 p))) := hst
              clear hst hs hb1
              go_wp2
              exact ⟨⟨k + 1, t - p, hlt, by go_num, rfl, by omega, Hst.out⟩, by simp [intOf]; omega⟩
            · obtain rfl : k = xs.length := by omega
              obtain ⟨hr1, -, hr3, hr4⟩ := hs.out
              have hlen : (parts amount T xs).length = xs.length := by simp [parts]
              rw [← hlen, List.take_length] at hr1 hr4
              rw [Nat.sub_self, List.replicate_zero, List.append_nil] at hr1
              have hpn := parts_nonneg amount T ha1.1 hT xs HMm.out
              have hyy : ∀ j, 0 ≤ (parts amount T xs).getD j 0 ∧ (parts amount T xs).getD j 0 + t ≤ 9223372036854775807 := by
                intro j
                by_cases hj : j < (parts amount T xs).length
                · have hm : (parts amount T xs).getD j 0 ∈ parts amount T xs := by simp [hj]
                  have := hpn _ hm
                  have := mem_le_sum _ hpn _ hm
                  omega
                · rw [List.getD_eq_getElem?_getD, List.getElem?_eq_none (by omega)]
                  simp
                  omega
              have Hst0 : Hid (GiveRel (parts amount T xs) xs t w.heap.size wr 0 t (parts amount T xs) wr) := GiveRel.start hlen hyy hr1
              have HR3 : Hid (Below w.heap.size w wr) := hr3
              have HR4 : Hid _ := hr4
              have Hlen : Hid _ := hlen
              clear hr1 hr3 hr4 hlen hpn hyy hs
              obtain ⟨wo, rfl⟩ : ∃ wo : World, wo = wr := ⟨_, rfl⟩
              go_wp2_with fail
              go_loopw [10, 12] (fun li i wr => ∃ k : Nat, ∃ l : Int, ∃ zs : List Int, k ≤ xs.length ∧ i = .int .i64 k ∧ li = .int .i64 l ∧ (0 ≤ l ∧ l ≤ 9223372036854775807) ∧ Hid (GiveRel (parts amount T xs) xs t w.heap.size wo k l zs wr))
                (fun _ i _ => xs.length - (intOf i).toNat)
              case atStart => exact ⟨0, t, _, by omega, rfl, rfl, by omega, Hst0.out⟩
              case round =>
                obtain ⟨k, l, zs, hk, rfl, rfl, hl, hs⟩ := hrel
                have hfin : (l = 0 ∨ k = xs.length) → Hid (SharePost amount xs w (.returned (.tuple #[.slice (some ⟨w.heap.size, 0, none⟩) xs.length xs.length, .int .i64 0])) wr) := by
                  intro h
                  have hro : Row wr w.heap.size .i64 3 (giveS (parts amount T xs) xs t) ∧ Only w.heap.size wo wr := by
                    rcases h with h | h
                    · subst h; exact GiveRel.stop hs.out
                    · subst h; exact GiveRel.done hs.out
                  have hE : shareE amount xs = 0 := by rw [shareE, if_neg (by rw [HG.out]; simp; omega), if_neg (by rw [HE3.out]; simp), if_neg (by rw [HTT.out]; omega)]
                  have hL : shareL amount xs = giveS (parts amount T xs) xs t := by rw [shareL, if_pos hE, HTT.out, HR4.out]
                  refine ⟨_, ret_share hE.symm, ?_, hro.2.below HR3.out (Nat.le_refl _)⟩
                  have h9 : Row wr w.heap.size .i64 3 (shareL amount xs) := by rw [hL]; exact hro.1
                  have h10 : (shareL amount xs).length = xs.length := by rw [hL, giveS_length, Hlen.out]
                  rw [← h10]
                  exact Row.seg h9 _
                have Hfin : Hid _ := hfin
                clear hfin
                by_cases hlt : k < xs.length
                · have hlt' : (k : Int) < xs.length := by omega
                  by_cases hl0 : l = 0
                  · have hl0' : ¬ 0 < l := by omega
                    have HF := (Hfin.out (Or.inl hl0)).out
                    have HF2 : Hid _ := HF
                    clear hl0 HF
                    go_wp2_with fail
                    go_ret2
                    exact HF2.out
                  · have hl0' : 0 < l := by omega
                    have hcell := ((hs.out.2.2.1.cell (p := ⟨b, off + k, none⟩) (by simp; omega)).trans (HR3.out.cell (p := ⟨b, off + k, none⟩) hbw)).trans (HC.out k hlt)
                    have hcell' := hs.out.2.1.cell k (by rw [hs.out.1]; exact hlt)
                    have hfr := hs.out.2.1.frozen k
                    have hz : 0 ≤ zs.getD k 0 ∧ zs.getD k 0 + l ≤ 9223372036854775807 := ⟨hs.out.2.2.2.2.1 k, hs.out.2.2.2.2.2 k (Nat.le_refl k)⟩
                    generalize hxk : xs.getD k 0 = x at hcell
                    generalize hzk : zs.getD k 0 = z at hcell' hz
                    have Hx : Hid _ := hxk
                    have Hz : Hid _ := hzk
                    clear hxk hzk hl0
                    by_cases hx0 : 0 < x
                    · have h7 := GiveRel.yes hs.out hlt hl0' (by rw [Hx.out]; exact hx0)
                      rw [Hz.out] at h7
                      have H7 : Hid (GiveRel (parts amount T xs) xs t w.heap.size wo (k + 1) (l - 1) (zs.set k (z + 1)) (wr.setCell ⟨w.heap.size, k, none⟩ (.int .i64 (z + 1)))) := h7
                      clear h7
                      go_wp2_with fail
                      have hw : wrap64 (z + 1) = z + 1 := by unfold wrap64; omega
                      try rw [hw]
                      exact ⟨⟨k + 1, l - 1, _, hlt, by go_num, rfl, by omega, H7.out⟩, by simp [intOf]; omega⟩
                    · have h7 := GiveRel.no hs.out hlt (by omega) (by rw [Hx.out]; exact hx0)
                      have H7 : Hid (GiveRel (parts amount T xs) xs t w.heap.size wo (k + 1) l zs wr) := h7
                      clear h7
                      go_wp2_with fail
                      exact ⟨⟨k + 1, l, _, hlt, by go_num, rfl, by omega, H7.out⟩, by simp [intOf]; omega⟩
                · have HF := (Hfin.out (Or.inr (by omega))).out
                  have HF2 : Hid _ := HF
                  have hlt' : ¬ (k : Int) < xs.length := by omega
                  have hltb : decide ((k : Int) < xs.length) = false := by simp; omega
                  clear HF
                  go_wp2_with fail
                  go_ret2
                  exact HF2.out
      · have h9 : sumE 0 xs = 9 := (sumE_or 0 xs).resolve_left h3
        have H1 : Hid (shareE amount xs = 9) := by rw [shareE, if_neg (by rw [HG.out]; simp; omega), if_pos h3, h9]; rfl
        rw [h9]
        clear h3 h9
        go_wp2
        go_ret2
        exact share_bad amount xs w w 9 (by decide) H1.out (Below.refl _ _)

theorem rshare (amount : Int) (xs : List Int) (v : Value) (w : World) (ha : -9223372036854775808 ≤ amount ∧ amount ≤ 9223372036854775807) (hx : Ints xs) (hv : Seg w v xs) (HM : RMulDivSaid) :
    Calls Try.prog 33 #[.int .i64 amount, v] w (SharePost amount xs w) := by
  obtain ⟨a, cap, rfl, h⟩ := hv
  by_cases h0 : xs = []
  · subst h0
    exact rshare_empty amount a cap w ha
  · obtain ⟨b, off, rfl, hb, hc⟩ := h h0
    exact rshare_row amount xs b off cap w ha hx hb h0 HM hc
end Go.Proofs.Ytjjcjgighdidcaa
