/- layer 17: lots put together, by the document -/
import Derived.Test.YtheikjjehidagaaNI
import Derived.Test.YtheikjjehidagaaNH
import Derived.WalkKit
import Derived.ProofKit
import Derived.Handy
import Derived.WalkLawsBesides
import Derived.WalkSpells
import Derived.BigQuiet
import Derived.BigCall
import Derived.Deep.QuietTactic
import Derived.Deep.Light
import Derived.Deep.OwnRows
import Derived.Laws.AppendOwnNone
import Derived.Laws.Strings3
import Derived.Laws.RangeAny
import Derived.Deep.RegionWith
import Derived.Lib.BitFns
import Derived.Lib.Walk
import Derived.Lib.Strings
import Derived.Lib.OthersKept
import Derived.Deep.CutBlock
import Derived.Deep.DeepCutAuto
import Derived.Deep.LoopGhost
import Derived.Deep.RegionHeld3
import Derived.Lib.SmallJoins
import Derived.Maps.AppendAt
import Derived.Laws.IdiomStrings
import Derived.Lib.AppendZeros
import Derived.Deep.WholeRow
import Derived.Laws.BitsAllLaws
import Derived.Lib.ConvBytes
import Derived.Deep.RegionLaw
import Derived.Maps.OwnSet
import Derived.Maps.OwnOps
import Derived.Maps.RangeWalk
import Derived.Maps.Ext
import Derived.DeepKeys4
import Derived.Laws.StructEq
import Derived.Deep.MidRow
import Derived.Lib.Bytealg
import Derived.Lib.AppendZerosOnto
import Derived.Laws.MakeOwn
import Derived.Deep.Upon
import Derived.Sort.KeysCollected
namespace Go.Proofs.Ytheikjjehidagaa
open Go.RowKit
set_option linter.unusedVariables false
set_option linter.unusedSimpArgs false
set_option maxRecDepth 20000
theorem addE_le {L : List Lt} {x : Lt} : addE L x ≤ 9 := by unfold addE; split <;> (try split) <;> (try split) <;> omega
/-- the round of Plus -/
structure PlR (L b : List Lt) (w wr : World) (k : Nat) (a : Option Addr) (M : List Lt) : Prop where
  r : Rw 2 lcs wr a M
  g : Good M
  e : mrg M (b.drop k) = mrg L b
  b : Below w.heap.size w wr
theorem PlR.below {L b : List Lt} {w wr w' : World} {k : Nat} {a : Option Addr} {M : List Lt} (h : PlR L b w wr k a M) (hb : Below wr.heap.size wr w') : PlR L b w w' k a M := ⟨h.r.below hb, h.g, h.e, h.b.trans (hb.mono h.b.size)⟩
theorem PlR.bad {L b : List Lt} {w wr : World} {k : Nat} {a : Option Addr} {M : List Lt} (h : PlR L b w wr k a M) (hk : k < b.length) {E : Nat} (he : addE M b[k] = E) (hE : E ≠ 0) : MgP L b w (.returned (.tuple #[.slice none 0 0, .int .i64 E])) wr := by
  subst he
  have h2 := h.e
  rw [List.drop_eq_getElem_cons hk] at h2
  exact MgP.bad h2 hE h.b
theorem PlR.next {L b : List Lt} {w wr w' : World} {k : Nat} {a a' : Option Addr} {M : List Lt} (h : PlR L b w wr k a M) (hk : k < b.length) (he : addE M b[k] = 0) (hb : Below wr.heap.size wr w') (hr : Rw 2 lcs w' a' (addL M b[k])) : PlR L b w w' (k + 1) a' (addL M b[k]) := by
  have h2 := h.e
  rw [List.drop_eq_getElem_cons hk, mrg_cons, if_pos he] at h2
  exact ⟨hr, h.g.add he, h2, h.b.trans (hb.mono h.b.size)⟩
set_option maxHeartbeats 16000000 in
theorem rplus (L b : List Lt) (gL : Good L) (hl : b.length ≤ 1000000) (hq : ∀ x ∈ b, okq x.n) (a : Option Addr) (cap : Nat) (a2 : Option Addr) (cap2 : Nat) (w : World) (h : Rw 2 lcs w a L) (h2 : Rw 2 lcs w a2 b) : Calls Try.prog 16 #[.slice a L.length cap, .slice a2 b.length cap2] w (MgP L b w) := by
  have HE : Hid (Rw 2 lcs w a2 b) := h2
  have HQ : Hid (∀ x ∈ b, okq x.n) := hq
  have hlz : (b.length : Int) ≤ 1000000 := by omega
  have HS0 : Hid (PlR L b w w 0 a L) := ⟨h, gL, rfl, Below.refl _ _⟩
  clear h h2 hq gL
  go_enter Try.func16, Try.ntmps16
  go_wp2_with fail
  go_loopw [6, 7] (fun s i wr => ∃ (k : Nat) (a : Option Addr) (M : List Lt) (cap : Nat), k ≤ b.length ∧ Value.slice a M.length cap = s ∧ i = .int .i64 k ∧ Hid (PlR L b w wr k a M))
    (fun _ i _ => b.length - (intOf i).toNat)
  case atStart => exact ⟨0, a, L, cap, Nat.zero_le _, rfl, rfl, HS0.out⟩
  case round =>
    clear HS0
    obtain ⟨k, a1, M, cap1, hk, rfl, rfl, HR⟩ := hrel
    by_cases hkn : k < b.length
    · have hkz : (k : Int) < (b.length : Int) := by omega
      obtain ⟨blk, off, rfl, hbl, hcs⟩ := HE.out (by omega)
      obtain ⟨c0, c1⟩ := Rw.at2 hcs HR.out.b hbl hkn
      have HK1 : Hid (∀ W, Below wr.heap.size wr W → W.cell? ⟨blk, off + k * 2, none⟩ = some (.string b[k].i) ∧ W.cell? ⟨blk, off + k * 2 + 1, none⟩ = some (.int .i64 b[k].n)) := fun W hb => Rw.at2 hcs (HR.out.b.trans (hb.mono HR.out.b.size)) hbl hkn
      have hkey : key b[k] = b[k].i.toList := rfl
      have HC : Hid (Calls Try.prog 23 #[.slice a1 M.length cap1, .string b[k].i] wr (QtP M (key b[k]) wr)) := rqty M (by have := HR.out.g.len; omega) b[k].i a1 cap1 wr HR.out.r
      have hqr := qty_ok HR.out.g.ok (key b[k])
      have hxq := HQ.out _ (List.getElem_mem hkn)
      have hM64 := HR.out.g.len
      have hM64z : (M.length : Int) ≤ 64 := by omega
      have hw1 : wrap64 (1125899906842624 - qty M (key b[k])) = 1125899906842624 - qty M (key b[k]) := by unfold wrap64; omega
      have hw2 : IntKind.i64.wrap (1125899906842624 - qty M (key b[k])) = 1125899906842624 - qty M (key b[k]) := by rw [IntKind.wrap_i64]; omega
      have HSet : Hid (addE M b[k] = 0 → ∀ W, Below wr.heap.size wr W → Calls Try.prog 43 #[.slice a1 M.length cap1, .string b[k].i, .int .i64 (qty M (key b[k]) + b[k].n)] W fun e w' => ∃ a' cap', e = .returned (.slice a' (addL M b[k]).length cap') ∧ Hid (PlR L b w w' (k + 1) a' (addL M b[k]) ∧ Below wr.heap.size wr w')) := fun he W hb => by
        refine (rset M (by omega) ⟨b[k].i, qty M (key b[k]) + b[k].n⟩ a1 cap1 W (HR.out.r.below hb)).mono ?_
        rintro e w' ⟨a', cap', rfl, HZ⟩
        have e0 : decide ((⟨b[k].i, qty M (key b[k]) + b[k].n⟩ : Lt).n = 0) = false := decide_eq_false (by show ¬ (qty M (key b[k]) + b[k].n = 0); unfold okq at hxq; omega)
        rw [e0] at HZ ⊢
        exact ⟨a', cap', rfl, HR.out.next hkn he (hb.trans (HZ.out.2.mono hb.size)) HZ.out.1, hb.trans (HZ.out.2.mono hb.size)⟩
      by_cases hf : qty M (key b[k]) = 0 ∧ 64 ≤ M.length
      · have hE : addE M b[k] = 2 := addE_full hxq hf.1 hf.2
        have HF : Hid (∀ W, Below wr.heap.size wr W → MgP L b w (.returned (.tuple #[.slice none 0 0, .int .i64 2])) W) := fun W hb => (HR.out.below hb).bad hkn hE (by decide)
        have hqz := hf.1
        have hfz : (64 : Int) ≤ (M.length : Int) := by omega
        unfold QtP at HC
        rw [hqz] at HC
        clear HR HSet hcs HK1 hw1 hw2 hqr hxq hE hf hM64
        generalize key b[k] = ky at *
        generalize b[k] = x at *
        obtain ⟨xi, xn⟩ := x
        simp only at *
        go_wp2_with (go_at_call 23; refine HC.out.mono ?_; clear HC; rintro e w2 ⟨rfl, hb2⟩)
        go_ret2
        exact HF.out _ hb2
      · by_cases ho : b[k].n > 1125899906842624 - qty M (key b[k])
        · have hE : addE M b[k] = 9 := by unfold addE; rw [if_pos hxq, if_neg hf, if_pos ho]
          have HF : Hid (∀ W, Below wr.heap.size wr W → MgP L b w (.returned (.tuple #[.slice none 0 0, .int .i64 9])) W) := fun W hb => (HR.out.below hb).bad hkn hE (by decide)
          have hoz : 1125899906842624 - qty M (key b[k]) < b[k].n := ho
          by_cases hqz : qty M (key b[k]) = 0
          · have hfz : ¬ (64 : Int) ≤ (M.length : Int) := by omega
            have hq0 : (qty M (key b[k]) == 0) = true := by simpa using hqz
            replace hqz := hid_in hqz
            clear HR HSet hcs hqr hxq hE ho hM64 hf
            unfold QtP at HC
            generalize hky : key b[k] = ky at *
            clear hky hqz
            generalize qty M ky = q at *
            generalize b[k] = x at *
            obtain ⟨xi, xn⟩ := x
            simp only at *
            go_wp2_with (go_at_call 23; refine HC.out.mono ?_; clear HC; rintro e w2 ⟨rfl, hb2⟩; obtain ⟨d0, d1⟩ := HK1.out w2 hb2; clear HK1)
            go_ret2
            exact HF.out _ hb2
          · have hq0 : (qty M (key b[k]) == 0) = false := by simpa using hqz
            replace hqz := hid_in hqz
            clear HR HSet hcs hqr hxq hE ho hM64 hf
            unfold QtP at HC
            generalize hky : key b[k] = ky at *
            clear hky hqz
            generalize qty M ky = q at *
            generalize b[k] = x at *
            obtain ⟨xi, xn⟩ := x
            simp only at *
            go_wp2_with (go_at_call 23; refine HC.out.mono ?_; clear HC; rintro e w2 ⟨rfl, hb2⟩; obtain ⟨d0, d1⟩ := HK1.out w2 hb2; clear HK1)
            go_ret2
            exact HF.out _ hb2
        · have hE : addE M b[k] = 0 := addE_iff hxq hf ho
          have HT := hid_in (HSet.out hE)
          have hoz : ¬ 1125899906842624 - qty M (key b[k]) < b[k].n := ho
          have hs1 : wrap64 (qty M (key b[k]) + b[k].n) = qty M (key b[k]) + b[k].n := by unfold okq at hxq; unfold wrap64; omega
          have hs2 : IntKind.i64.wrap (qty M (key b[k]) + b[k].n) = qty M (key b[k]) + b[k].n := by unfold okq at hxq; rw [IntKind.wrap_i64]; omega
          by_cases hqz : qty M (key b[k]) = 0
          · have hfz : ¬ (64 : Int) ≤ (M.length : Int) := by omega
            have hq0 : (qty M (key b[k]) == 0) = true := by simpa using hqz
            replace hqz := hid_in hqz
            clear HR HSet hcs hqr hxq hE ho hM64 hf
            unfold QtP at HC
            generalize hmm : addL M b[k] = M2 at *
            clear hmm
            generalize hky : key b[k] = ky at *
            clear hky hqz
            generalize qty M ky = q at *
            generalize b[k] = x at *
            obtain ⟨xi, xn⟩ := x
            simp only at *
            go_upto_region 10 with (go_at_call 23; refine HC.out.mono ?_; clear HC; rintro e w2 ⟨rfl, hb2⟩; obtain ⟨d0, d1⟩ := HK1.out w2 hb2)
            have HQ2 : Hid (∀ q, Below wr.heap.size wr (w2.drewN q)) := fun q => below_q hb2 q
            have HB2 : Hid (Below wr.heap.size wr w2) := hb2
            have HKS : Hid (∀ q w', Below (w2.drewN q).heap.size (w2.drewN q) w' → w'.cell? ⟨blk, off + k * 2, none⟩ = some (.string xi) ∧ w'.cell? ⟨blk, off + k * 2 + 1, none⟩ = some (.int .i64 xn)) := fun q w' hb => HK1.out w' ((HQ2.out q).trans (hb.mono (HQ2.out q).size))
            clear hb2
            go_region_held3 (fun w' => w'.cell? ⟨blk, off + k * 2, none⟩ = some (.string xi) ∧ w'.cell? ⟨blk, off + k * 2 + 1, none⟩ = some (.int .i64 xn)) (first | go_keep | exact HKS3.out) (first | (go_at_call 43; go_must (refine (HT.out _ (HQ2.out _)).mono ?_; rintro e w3 ⟨a3, cap3, rfl, HZ3⟩; have HKS3 : Hid (w3.cell? ⟨blk, off + k * 2, none⟩ = some (.string xi) ∧ w3.cell? ⟨blk, off + k * 2 + 1, none⟩ = some (.int .i64 xn)) := HK1.out _ HZ3.out.2)))
            go_wp2_with fail
            go_roundw
            case rel => exact ⟨k + 1, a3, M2, cap3, by omega, rfl, by simp, HZ3.out.1⟩
            case measure => simp [intOf]; omega
          · have hq0 : (qty M (key b[k]) == 0) = false := by simpa using hqz
            replace hqz := hid_in hqz
            clear HR HSet hcs hqr hxq hE ho hM64 hf
            unfold QtP at HC
            generalize hmm : addL M b[k] = M2 at *
            clear hmm
            generalize hky : key b[k] = ky at *
            clear hky hqz
            generalize qty M ky = q at *
            generalize b[k] = x at *
            obtain ⟨xi, xn⟩ := x
            simp only at *
            go_upto_region 10 with (go_at_call 23; refine HC.out.mono ?_; clear HC; rintro e w2 ⟨rfl, hb2⟩; obtain ⟨d0, d1⟩ := HK1.out w2 hb2)
            have HQ2 : Hid (∀ q, Below wr.heap.size wr (w2.drewN q)) := fun q => below_q hb2 q
            have HB2 : Hid (Below wr.heap.size wr w2) := hb2
            have HKS : Hid (∀ q w', Below (w2.drewN q).heap.size (w2.drewN q) w' → w'.cell? ⟨blk, off + k * 2, none⟩ = some (.string xi) ∧ w'.cell? ⟨blk, off + k * 2 + 1, none⟩ = some (.int .i64 xn)) := fun q w' hb => HK1.out w' ((HQ2.out q).trans (hb.mono (HQ2.out q).size))
            clear hb2
            go_region_held3 (fun w' => w'.cell? ⟨blk, off + k * 2, none⟩ = some (.string xi) ∧ w'.cell? ⟨blk, off + k * 2 + 1, none⟩ = some (.int .i64 xn)) (first | go_keep | exact HKS3.out) (first | (go_at_call 43; go_must (refine (HT.out _ (HQ2.out _)).mono ?_; rintro e w3 ⟨a3, cap3, rfl, HZ3⟩; have HKS3 : Hid (w3.cell? ⟨blk, off + k * 2, none⟩ = some (.string xi) ∧ w3.cell? ⟨blk, off + k * 2 + 1, none⟩ = some (.int .i64 xn)) := HK1.out _ HZ3.out.2)))
            go_wp2_with fail
            go_roundw
            case rel => exact ⟨k + 1, a3, M2, cap3, by omega, rfl, by simp, HZ3.out.1⟩
            case measure => simp [intOf]; omega
    · have hkz : ¬ (k : Int) < (b.length : Int) := by omega
      have HF : Hid (MgP L b w (.returned (.tuple #[.slice a1 M.length cap1, .int .i64 0])) wr) := MgP.done (by have := HR.out.e; rwa [List.drop_eq_nil_of_le (by omega)] at this) HR.out.r HR.out.b
      clear HR
      go_wp2_with fail
      go_ret2
      exact HF.out
end Go.Proofs.Ytheikjjehidagaa
