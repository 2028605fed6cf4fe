/- The law DiskLimits. -/
import Derived.Test.YtfdebooimbbdbaaR
import Derived.WalkKit
import Derived.ProofKit
import Derived.Handy
import Derived.WalkLawsBesides
import Derived.WalkSpells
import Derived.BigQuiet
import Derived.BigCall
import Derived.Deep.QuietTactic
import Derived.Deep.Light
import Derived.Deep.OwnRows
import Derived.Laws.AppendOwnNone
import Derived.Laws.Strings3
import Derived.Laws.RangeAny
import Derived.Deep.RegionWith
import Derived.Lib.BitFns
import Derived.Lib.Walk
import Derived.Lib.Strings
import Derived.Lib.OthersKept
import Derived.Deep.CutBlock
import Derived.Deep.DeepCutAuto
import Derived.Deep.LoopGhost
import Derived.Deep.RegionHeld3
import Derived.Lib.SmallJoins
import Derived.Maps.AppendAt
import Derived.Laws.IdiomStrings
import Derived.Lib.AppendZeros
import Derived.Deep.WholeRow
namespace Go.Proofs.Ytfdebooimbbdbaa
open Go.RowKit
set_option linter.unusedVariables false
set_option linter.unusedSimpArgs false
/-- behind k rounds, d of them changes, under the limit n -/
structure Lm (n : Int) (d k : Nat) (S : St) : Prop where
  ok : Ok S
  sm : (S.f 1).size ≤ k
  dk : d ≤ k
  st : (n < 0 ∧ S.lim = n ∧ S.gone = false) ∨ (0 ≤ n ∧ (d : Int) ≤ n ∧ S.lim = n - d ∧ (S.gone = true → (d : Int) = n))
theorem Lm.free {n : Int} {d k : Nat} {S : St} (h : Lm n d k S) (hc : n < 0 ∨ (d : Int) < n) : S.gone = false ∧ (spd S).2 = 0 ∧ (spd S).1.gone = false ∧ ((n < 0 ∧ (spd S).1.lim = n) ∨ (0 ≤ n ∧ (spd S).1.lim = n - (d + 1))) := by
  have hg : S.gone = false := by
    rcases h.st with ⟨_, _, g⟩ | ⟨h0, h1, h2, h3⟩
    · exact g
    · cases e : S.gone
      · rfl
      · have := h3 e; omega
  refine ⟨hg, ?_⟩
  rcases spd_cases S with ⟨c, e⟩ | ⟨c, e⟩ | ⟨c, e⟩ <;> rw [e]
  · rcases h.st with ⟨h0, h1, _⟩ | ⟨h0, h1, h2, h3⟩ <;> omega
  · refine ⟨rfl, hg, ?_⟩
    rcases h.st with ⟨h0, h1, _⟩ | ⟨h0, h1, h2, h3⟩
    · omega
    · right; exact ⟨h0, by show S.lim - 1 = _; omega⟩
  · refine ⟨rfl, hg, ?_⟩
    rcases h.st with ⟨h0, h1, _⟩ | ⟨h0, h1, h2, h3⟩
    · left; exact ⟨h0, h1⟩
    · omega
theorem Lm.stop {n : Int} {d k : Nat} {S : St} (h : Lm n d k S) (hc : ¬ (n < 0 ∨ (d : Int) < n)) (e : Int) (g : St → St) (he : S.gone = false → e = 0) (he2 : S.gone = true → e = 13) : (chg S e g).2 = 13 ∧ Lm n d (k + 1) (chg S e g).1 := by
  have hdn : 0 ≤ n ∧ (d : Int) = n ∧ S.lim = 0 := by
    rcases h.st with ⟨h0, _⟩ | ⟨h0, h1, h2, h3⟩
    · omega
    · omega
  have hs := h.sm
  have hd := h.dk
  cases hg : S.gone
  · rw [he hg, chg_c _ _ (by
      rcases spd_cases S with ⟨c, e⟩ | ⟨c, e⟩ | ⟨c, e⟩
      · rw [e]; show ¬ (13 : Int) = 0; decide
      · omega
      · omega)]
    have e : spd S = ({ S with gone := true }, 13) := by unfold spd; rw [if_pos hdn.2.2]
    rw [e]
    exact ⟨rfl, ⟨h.ok.safe, h.ok.small, h.ok.lo, h.ok.hi⟩, by show (S.f 1).size ≤ _; omega, by omega, .inr ⟨hdn.1, by omega, by show S.lim = _; omega, fun _ => hdn.2.1⟩⟩
  · rw [he2 hg, chg_e _ _ _ (by omega)]
    exact ⟨rfl, h.ok, by show (S.f 1).size ≤ _; omega, by omega, .inr ⟨hdn.1, by omega, by show S.lim = _; omega, fun _ => hdn.2.1⟩⟩
theorem Lm.onA {n : Int} {d k : Nat} {S : St} (h : Lm n d k S) (hk : k < 60) : ((n < 0 ∨ (d : Int) < n) → (app S 1 ⟨#[120]⟩).2 = 0 ∧ Lm n (d + 1) (k + 1) (app S 1 ⟨#[120]⟩).1) ∧ (¬ (n < 0 ∨ (d : Int) < n) → (app S 1 ⟨#[120]⟩).2 = 13 ∧ Lm n d (k + 1) (app S 1 ⟨#[120]⟩).1) := by
  have hsm := h.sm
  have hx : (⟨#[120]⟩ : ByteArray).size = 1 := rfl
  refine ⟨fun hc => ?_, fun hc => ?_⟩
  · obtain ⟨hg, h2, h3, h4⟩ := h.free hc
    have hok := app_ok h.ok 1 ⟨#[120]⟩
    have he : full S 1 (⟨#[120]⟩ : ByteArray).size = 0 := by
      unfold full
      have hz : chk S 1 = 0 := chk_free (i := 1) hg (by omega)
      rw [hz, if_neg (by simp), if_neg (by rw [hx]; show ¬ 1048576 < (S.f 1).size + 1; omega)]
    have ee : app S 1 ⟨#[120]⟩ = ({ (spd S).1 with f := put (spd S).1.f 1 ((spd S).1.f 1 ++ ⟨#[120]⟩) }, 0) := by
      unfold app
      rw [he, chg_0 _ _ h2]
      rfl
    rw [ee] at hok ⊢
    refine ⟨rfl, hok, ?_, by have := h.dk; omega, ?_⟩
    · show (put (spd S).1.f 1 ((spd S).1.f 1 ++ ⟨#[120]⟩) 1).size ≤ k + 1
      rw [put_eq, ByteArray.size_append, (spd_f S).1, hx]
      omega
    · rcases h4 with ⟨a, b⟩ | ⟨a, b⟩
      · left; exact ⟨a, b, h3⟩
      · right; exact ⟨a, by omega, by show (spd S).1.lim = _; omega, fun q => by have q' : (spd S).1.gone = true := q; rw [h3] at q'; cases q'⟩
  · unfold app
    refine h.stop hc _ _ (fun hg => ?_) (fun hg => ?_)
    · unfold full
      have hz : chk S 1 = 0 := chk_free (i := 1) hg (by omega)
      rw [hz, if_neg (by simp), if_neg (by rw [hx]; show ¬ 1048576 < (S.f 1).size + 1; omega)]
    · have : chk S 1 = 13 := by unfold chk; rw [if_pos hg]
      unfold full
      rw [this, if_pos (by omega)]
theorem Lm.onS {n : Int} {d k : Nat} {S : St} (h : Lm n d k S) (hk : k < 60) : ((n < 0 ∨ (d : Int) < n) → (syn S 1).2 = 0 ∧ Lm n (d + 1) (k + 1) (syn S 1).1) ∧ (¬ (n < 0 ∨ (d : Int) < n) → (syn S 1).2 = 13 ∧ Lm n d (k + 1) (syn S 1).1) := by
  have hsm := h.sm
  refine ⟨fun hc => ?_, fun hc => ?_⟩
  · obtain ⟨hg, h2, h3, h4⟩ := h.free hc
    have hok := syn_ok h.ok 1
    have he : chk S 1 = 0 := chk_free (i := 1) hg (by omega)
    have ee : syn S 1 = ({ (spd S).1 with s := put (spd S).1.s 1 ((spd S).1.f 1).size }, 0) := by
      unfold syn
      rw [he, chg_0 _ _ h2]
      rfl
    rw [ee] at hok ⊢
    refine ⟨rfl, hok, ?_, by have := h.dk; omega, ?_⟩
    · show ((spd S).1.f 1).size ≤ k + 1
      rw [(spd_f S).1]
      omega
    · rcases h4 with ⟨a, b⟩ | ⟨a, b⟩
      · left; exact ⟨a, b, h3⟩
      · right; exact ⟨a, by omega, by show (spd S).1.lim = _; omega, fun q => by have q' : (spd S).1.gone = true := q; rw [h3] at q'; cases q'⟩
  · unfold syn
    refine h.stop hc _ _ (fun hg => ?_) (fun hg => ?_)
    · exact chk_free (i := 1) hg (by omega)
    · unfold chk; rw [if_pos hg]
def kp0 : Nat → Int := fun _ => 0
theorem Lm.last {n : Int} {d k : Nat} {S : St} (h : Lm n d k S) (hk : k ≤ 60) : (app (crs S kp0) 1 ⟨#[121]⟩).2 = 0 := by
  have hl := lft_le (S.f 1).size (S.s 1) (kp0 1) (h.ok.safe 1)
  have hsm := h.sm
  have := app_free (S := crs S kp0) (i := 1) rfl (by show (-1 : Int) < 0; decide) (by omega) ⟨#[121]⟩ (by
    show ((S.f 1).extract 0 _).size + 1 ≤ _
    rw [size_extract0 _ _ hl.2]
    omega)
  exact congrArg Prod.snd this
set_option maxRecDepth 100000 in
set_option maxHeartbeats 2000000 in
theorem llimits (n : Int) (hn : -9223372036854775808 ≤ n ∧ n ≤ 9223372036854775807) (A : List ActD) (a : Option Addr) (cap : Nat) (w : World) (h : Acts w a A) : Calls Try.prog 5 #[.int .i64 n, .slice a A.length cap] w fun e w' => e = .returned (.bool true) ∧ Below w.heap.size w w' := by
  have HA : Hid (Acts w a A) := h
  have hlen := h.len
  clear h
  go_enter Try.func5, Try.ntmps5
  go_wp2_with fail
  refine (xnew w.heap.size _ (Nat.le_refl _)).mono ?_
  rintro e w1 ⟨rfl, ⟨V1, hd1⟩, hb1⟩
  have D1 : Hid (Dk w.heap.size w1 w.heap.size new V1) := hd1
  have B1 : Hid (Below w.heap.size w w1) := hb1
  clear hd1 hb1
  generalize hp : w.heap.size = p at *
  have HP : Hid (w.heap.size = p) := hp
  clear hp
  go_wp2_with fail
  refine (xlimit p p new V1 _ D1.out n).mono ?_
  rintro e w2 ⟨rfl, hc2⟩
  have D2 : Hid (Dk p w2 p { new with lim := n } V1) := hc2.1
  have B2 : Hid (Below p w w2) := B1.out.trans hc2.2.1
  have L2 : Hid (Lm n 0 0 { new with lim := n }) := by
    refine ⟨lim_ok new_ok n hn.1 hn.2, Nat.le_refl _, Nat.le_refl _, ?_⟩
    by_cases c : n < 0
    · left; exact ⟨c, rfl, rfl⟩
    · right; exact ⟨by omega, by omega, by show n = _; omega, fun q => by cases q⟩
  clear hc2 D1 B1
  go_upto_region 5 with fail
  go_loopw [6, 7] (fun dn i wr => ∃ (k d : Nat) (S : St) (V : Nat → Value), k ≤ A.length ∧ k ≤ 60 ∧ d ≤ k ∧ i = .int .i64 k ∧ dn = .int .i64 d ∧ Hid (Lm n d k S) ∧ Hid (Dk p wr p S V) ∧ Hid (Below p w wr)) (fun _ i _ => A.length - (intOf i).toNat)
  case atStart => exact ⟨0, 0, _, V1, Nat.zero_le _, by omega, by omega, rfl, rfl, L2.out, D2.out, B2.out⟩
  case round =>
    clear L2 D2 B2
    obtain ⟨k, d, S, V, hk, hk60, hdk, rfl, rfl, HL, HD, HW⟩ := hrel
    by_cases hcont : k < A.length ∧ k < 60
    · obtain ⟨hlt, h60⟩ := hcont
      obtain ⟨b, off, rfl, hbl, hce⟩ := HA.out.at_ (by omega)
      have hAk : ∀ o, o < 8 → wr.cell? ⟨b, off + k * 8 + o, none⟩ = A[k].cells[o]? := fun o ho => (HW.out.cell (by rw [← HP.out]; exact hbl)).trans (hce k hlt o ho)
      obtain ⟨x0, _⟩ := eight hAk
      have hg := (HA.out.good _ (List.getElem_mem hlt)).c
      generalize A[k] = X at *
      generalize X.c = c at *
      have hlt' : (k : Int) < A.length := by omega
      have h60' : (k : Int) < 60 := by omega
      have hlen' : (A.length : Int) ≤ 140737488355328 := by omega
      have hd' : (d : Int) ≤ 60 := by omega
      have HX : Hid (((n < 0 ∨ (d : Int) < n) → (app S 1 ⟨#[120]⟩).2 = 0 ∧ Lm n (d + 1) (k + 1) (app S 1 ⟨#[120]⟩).1) ∧ (¬ (n < 0 ∨ (d : Int) < n) → (app S 1 ⟨#[120]⟩).2 = 13 ∧ Lm n d (k + 1) (app S 1 ⟨#[120]⟩).1)) := HL.out.onA h60
      have HY : Hid (((n < 0 ∨ (d : Int) < n) → (syn S 1).2 = 0 ∧ Lm n (d + 1) (k + 1) (syn S 1).1) ∧ (¬ (n < 0 ∨ (d : Int) < n) → (syn S 1).2 = 13 ∧ Lm n d (k + 1) (syn S 1).1)) := HL.out.onS h60
      have HCA : Hid (Calls Try.prog 17 #[.pointer (some ⟨p, 0, none⟩), .int .i64 1, .string ⟨#[120]⟩] wr fun e w' => e = .returned (.int .i64 (app S 1 ⟨#[120]⟩).2) ∧ ∃ V', Hid (Dk p w' p (app S 1 ⟨#[120]⟩).1 V') ∧ Hid (Below p w w')) := by
        refine (xappend p p S V wr HD.out HL.out.ok 1 ⟨#[120]⟩ (by unfold maxLen; decide)).mono ?_
        rintro e w' ⟨rfl, V', hc⟩
        exact ⟨rfl, V', hc.1, HW.out.trans hc.2.1⟩
      have HCS : Hid (Calls Try.prog 18 #[.pointer (some ⟨p, 0, none⟩), .int .i64 1] wr fun e w' => e = .returned (.int .i64 (syn S 1).2) ∧ ∃ V', Hid (Dk p w' p (syn S 1).1 V') ∧ Hid (Below p w w')) := by
        refine (xsyncD p p S V wr HD.out HL.out.ok 1).mono ?_
        rintro e w' ⟨rfl, hc⟩
        exact ⟨rfl, V, hc.1, HW.out.trans hc.2.1⟩
      clear hce hAk
      by_cases hmod : (c.tmod 2 == 0) = true
      · clear HY HCS
        generalize app S 1 ⟨#[120]⟩ = Z at *
        obtain ⟨T, f⟩ := Z
        by_cases hn0 : n < 0
        · have hf : f = 0 := (HX.out.1 (.inl hn0)).1
          have HLn : Hid (Lm n (d + 1) (k + 1) T) := (HX.out.1 (.inl hn0)).2
          subst hf
          clear HX HL HD HW
          go_wp2_with fail
          refine HCA.out.mono ?_
          rintro e w3 ⟨rfl, V3, D3, W3⟩
          go_wp2_with fail
          exact ⟨⟨k + 1, d + 1, T, V3, by omega, by omega, by omega, by go_num, by go_num, HLn, D3, W3⟩, by simp [intOf]; omega⟩
        · by_cases hdn : (d : Int) < n
          · have hf : f = 0 := (HX.out.1 (.inr hdn)).1
            have HLn : Hid (Lm n (d + 1) (k + 1) T) := (HX.out.1 (.inr hdn)).2
            subst hf
            clear HX HL HD HW
            go_wp2_with fail
            refine HCA.out.mono ?_
            rintro e w3 ⟨rfl, V3, D3, W3⟩
            go_wp2_with fail
            exact ⟨⟨k + 1, d + 1, T, V3, by omega, by omega, by omega, by go_num, by go_num, HLn, D3, W3⟩, by simp [intOf]; omega⟩
          · have hf : f = 13 := (HX.out.2 (by omega)).1
            have HLn : Hid (Lm n d (k + 1) T) := (HX.out.2 (by omega)).2
            subst hf
            clear HX HL HD HW
            go_wp2_with fail
            refine HCA.out.mono ?_
            rintro e w3 ⟨rfl, V3, D3, W3⟩
            go_wp2_with fail
            exact ⟨⟨k + 1, d, T, V3, by omega, by omega, by omega, by go_num, rfl, HLn, D3, W3⟩, by simp [intOf]; omega⟩
      · have hmod' : (c.tmod 2 == 0) = false := by simpa using hmod
        clear HX HCA hmod
        generalize syn S 1 = Z at *
        obtain ⟨T, f⟩ := Z
        by_cases hn0 : n < 0
        · have hf : f = 0 := (HY.out.1 (.inl hn0)).1
          have HLn : Hid (Lm n (d + 1) (k + 1) T) := (HY.out.1 (.inl hn0)).2
          subst hf
          clear HY HL HD HW
          go_wp2_with fail
          refine HCS.out.mono ?_
          rintro e w3 ⟨rfl, V3, D3, W3⟩
          go_wp2_with fail
          exact ⟨⟨k + 1, d + 1, T, V3, by omega, by omega, by omega, by go_num, by go_num, HLn, D3, W3⟩, by simp [intOf]; omega⟩
        · by_cases hdn : (d : Int) < n
          · have hf : f = 0 := (HY.out.1 (.inr hdn)).1
            have HLn : Hid (Lm n (d + 1) (k + 1) T) := (HY.out.1 (.inr hdn)).2
            subst hf
            clear HY HL HD HW
            go_wp2_with fail
            refine HCS.out.mono ?_
            rintro e w3 ⟨rfl, V3, D3, W3⟩
            go_wp2_with fail
            exact ⟨⟨k + 1, d + 1, T, V3, by omega, by omega, by omega, by go_num, by go_num, HLn, D3, W3⟩, by simp [intOf]; omega⟩
          · have hf : f = 13 := (HY.out.2 (by omega)).1
            have HLn : Hid (Lm n d (k + 1) T) := (HY.out.2 (by omega)).2
            subst hf
            clear HY HL HD HW
            go_wp2_with fail
            refine HCS.out.mono ?_
            rintro e w3 ⟨rfl, V3, D3, W3⟩
            go_wp2_with fail
            exact ⟨⟨k + 1, d, T, V3, by omega, by omega, by omega, by go_num, rfl, HLn, D3, W3⟩, by simp [intOf]; omega⟩
    · have HCr : Hid (Calls Try.prog 15 #[.pointer (some ⟨p, 0, none⟩), .agg (kcells kp0)] wr fun e w' => e = .returned (.tuple #[]) ∧ ∃ V', Hid (Dk p w' p (crs S kp0) V') ∧ Hid (Below p w w')) := by
        refine (xcrash p p S V wr HD.out HL.out.ok kp0 (by intro j; unfold kp0; omega)).mono ?_
        rintro e w' ⟨rfl, V', hc⟩
        exact ⟨rfl, V', hc.1, HW.out.trans hc.2.1⟩
      have HE : Hid ((app (crs S kp0) 1 ⟨#[121]⟩).2 = 0) := HL.out.last hk60
      have HO : Hid (Ok (crs S kp0)) := crs_ok HL.out.ok kp0
      have HAw : Hid (∀ w', Below p w w' → Calls Try.prog 12 #[] w' fun e w2 => e = .returned (.bool true) ∧ Hid (Below w.heap.size w w2)) := by
        intro w' hb
        refine (xawake w').mono ?_
        rintro e w2 ⟨rfl, hb2⟩
        refine ⟨rfl, ?_⟩
        show Below w.heap.size w w2
        rw [HP.out]
        exact hb.trans (hb2.mono (by have := hb.size; rw [HP.out] at this; exact this))
      have hfin : ¬ (k : Int) < A.length ∨ ((k : Int) < A.length ∧ ¬ (k : Int) < 60) := by omega
      clear HL HD HW hcont
      rcases hfin with hlt' | ⟨hlt', h60'⟩
      · go_wp2_with fail
        refine HCr.out.mono ?_
        rintro e w3 ⟨rfl, V3, D3, W3⟩
        go_wp2_with fail
        refine (xappend p p _ V3 _ D3.out HO.out 1 ⟨#[121]⟩ (by unfold maxLen; decide)).mono ?_
        rw [HE.out]
        rintro e w4 ⟨rfl, V4, hc4⟩
        have W4 : Hid (Below p w w4) := W3.out.trans hc4.2.1
        clear hc4
        go_wp2_with fail
        refine (HAw.out _ W4.out).mono ?_
        rintro e w5 ⟨rfl, W5⟩
        go_wp2_with fail
        go_ret
        exact ⟨rfl, W5.out⟩
      · go_wp2_with fail
        refine HCr.out.mono ?_
        rintro e w3 ⟨rfl, V3, D3, W3⟩
        go_wp2_with fail
        refine (xappend p p _ V3 _ D3.out HO.out 1 ⟨#[121]⟩ (by unfold maxLen; decide)).mono ?_
        rw [HE.out]
        rintro e w4 ⟨rfl, V4, hc4⟩
        have W4 : Hid (Below p w w4) := W3.out.trans hc4.2.1
        clear hc4
        go_wp2_with fail
        refine (HAw.out _ W4.out).mono ?_
        rintro e w5 ⟨rfl, W5⟩
        go_wp2_with fail
        go_ret
        exact ⟨rfl, W5.out⟩
end Go.Proofs.Ytfdebooimbbdbaa
