/- layer 13: shows, and texts alike -/
import Derived.Test.YtbgdmpaghkmadaaQ
import Derived.Test.YtbgdmpaghkmadaaL
import Derived.WalkKit
import Derived.ProofKit
import Derived.Handy
import Derived.WalkLawsBesides
import Derived.WalkSpells
import Derived.BigQuiet
import Derived.BigCall
import Derived.Deep.QuietTactic
import Derived.Deep.Light
import Derived.Deep.OwnRows
import Derived.Laws.AppendOwnNone
import Derived.Laws.Strings3
import Derived.Laws.RangeAny
import Derived.Deep.RegionWith
import Derived.Lib.BitFns
import Derived.Lib.Walk
import Derived.Lib.Strings
import Derived.Lib.OthersKept
import Derived.Deep.CutBlock
import Derived.Deep.DeepCutAuto
import Derived.Deep.LoopGhost
import Derived.Deep.RegionHeld3
import Derived.Lib.SmallJoins
import Derived.Maps.AppendAt
import Derived.Laws.IdiomStrings
import Derived.Lib.AppendZeros
import Derived.Deep.WholeRow
import Derived.Laws.BitsAllLaws
import Derived.Lib.ConvBytes
import Derived.Deep.RegionLaw
import Derived.Maps.OwnSet
import Derived.Maps.OwnOps
import Derived.Maps.RangeWalk
import Derived.Maps.Ext
import Derived.DeepKeys4
import Derived.Laws.StructEq
import Derived.Deep.MidRow
import Derived.Lib.Bytealg
import Derived.Lib.Overlaps
import Derived.Lib.AppendZerosOnto
import Derived.Laws.MakeOwn
namespace Go.Proofs.Ytbgdmpaghkmadaa
open Go.RowKit
set_option linter.unusedVariables false
set_option linter.unusedSimpArgs false
open Num
set_option maxRecDepth 20000
theorem NwP.rw {α : Type} {T k : Nat} {f : α → List Value} (hf : ∀ x, (f x).length = k) {xs : List α} {w w' : World} {e : Ending} (h : NwP T k f xs w e w') : ∃ a c, e = .returned (.slice a xs.length c) ∧ Rw k f w' a xs ∧ Below w.heap.size w w' := by
  obtain ⟨v, rfl, ho, hb⟩ := h
  obtain ⟨a, c, rfl, _, hr⟩ := own_rw hf ho rfl
  exact ⟨a, c, rfl, hr, hb⟩
set_option maxHeartbeats 4000000 in
theorem rtexts (xs : List ByteArray) (hl : xs.length ≤ 1000000) (a b : Option Addr) (ca cb : Nat) (w : World) (h1 : Rw 1 stc w a xs) (h2 : Rw 1 stc w b xs) : Calls Try.prog 25 #[.slice a xs.length ca, .slice b xs.length cb] w (OkP w) := by
  have H1 : Hid (Rw 1 stc w a xs) := h1
  have H2 : Hid (Rw 1 stc w b xs) := h2
  have hlz : (xs.length : Int) ≤ 1000000 := by omega
  clear h1 h2
  go_enter Try.func25, Try.ntmps25
  go_wp2_with fail
  go_loopw [5] (fun i wr => ∃ k : Nat, k ≤ xs.length ∧ i = .int .i64 k ∧ Hid (Below w.heap.size w wr))
    (fun i _ => xs.length - (intOf i).toNat)
  case atStart => exact ⟨0, Nat.zero_le _, rfl, Below.refl _ _⟩
  case round =>
    obtain ⟨k, hk, rfl, HB⟩ := hrel
    by_cases hkn : k < xs.length
    · have hkz : (k : Int) < (xs.length : Int) := by omega
      obtain ⟨b1, o1, rfl, hb1, hc1⟩ := H1.out (by omega)
      obtain ⟨b2, o2, rfl, hb2, hc2⟩ := H2.out (by omega)
      have c1 : wr.cell? ⟨b1, o1 + k, none⟩ = some (.string xs[k]) := by
        have := (HB.out.cell (p := ⟨b1, o1 + k * 1 + 0, none⟩) hb1).trans (hc1 k hkn 0 (by omega))
        simpa [stc] using this
      have c2 : wr.cell? ⟨b2, o2 + k, none⟩ = some (.string xs[k]) := by
        have := (HB.out.cell (p := ⟨b2, o2 + k * 1 + 0, none⟩) hb2).trans (hc2 k hkn 0 (by omega))
        simpa [stc] using this
      have HQ : Hid (∀ n, Below w.heap.size w (wr.drewN n)) := fun n => N1.below_drewN HB.out
      clear hc1 hc2
      generalize xs[k] = x at *
      go_wp2_with fail
      go_quiet (fail)
      go_wp2_with fail
      go_roundw
      case rel => exact ⟨k + 1, by omega, by simp, HQ.out _⟩
      case measure => simp [intOf]; omega
    · have hkz : ¬ (k : Int) < (xs.length : Int) := by omega
      go_wp2_with fail
      go_ret
      exact ⟨rfl, HB.out⟩
theorem Rw.at5 {w wr : World} {blk off : Nat} {L : List As} (h : ∀ i (h : i < L.length), ∀ j, j < 5 → w.cell? ⟨blk, off + i * 5 + j, none⟩ = (acs L[i])[j]?) (hb : Below w.heap.size w wr) (hl : blk < w.heap.size) {k : Nat} (hk : k < L.length) :
    wr.cell? ⟨blk, off + k * 5, none⟩ = some (.string L[k].i) ∧ wr.cell? ⟨blk, off + k * 5 + 1, none⟩ = some (.int .i64 L[k].iss) ∧ wr.cell? ⟨blk, off + k * 5 + 2, none⟩ = some (.int .i64 L[k].rat) ∧ wr.cell? ⟨blk, off + k * 5 + 3, none⟩ = some (.int .i64 L[k].mat) ∧ wr.cell? ⟨blk, off + k * 5 + 4, none⟩ = some (.string L[k].c) := by
  have hcc (i : Nat) (hi : i < 5) : wr.cell? ⟨blk, off + k * 5 + i, none⟩ = (acs L[k])[i]? := (hb.cell (p := ⟨blk, off + k * 5 + i, none⟩) hl).trans (h k hk i hi)
  exact ⟨hcc 0 (by omega), hcc 1 (by omega), hcc 2 (by omega), hcc 3 (by omega), hcc 4 (by omega)⟩
theorem sel_get {β : Type} {f : Kn → Option β} {L : List Kn} {k : Nat} (hk : k < L.length) {y : β} (h : f L[k] = some y) : ∃ hn : (sel f (L.take k)).length < (sel f L).length, (sel f L)[(sel f (L.take k)).length] = y := by
  have e : sel f L = sel f (L.take k) ++ y :: sel f (L.drop (k + 1)) := by
    unfold sel
    conv => lhs; rw [← List.take_append_drop k L, List.drop_eq_getElem_cons hk]
    rw [List.filterMap_append, List.filterMap_cons_some h]
  have hn : (sel f (L.take k)).length < (sel f L).length := by rw [e]; simp
  refine ⟨hn, ?_⟩
  simp only [e]
  rw [List.getElem_append_right (Nat.le_refl _)]
  simp
set_option maxHeartbeats 16000000 in
theorem xshows {B B' : Nat} {w : World} {q : Nat} {v : Value} {L : List Kn} (h : Bk B w q v L) (g : Num.Good L) (al : Option Addr) (cl : Nat) (hr : Rw 6 kcs w al L) : Calls Try.prog 11 #[.pointer (some ⟨q, 0, none⟩), .slice al L.length cl] w (OkP w) := by
  obtain ⟨ra, rc, rfl, _, hrw, hkn⟩ := h.known
  have HG : Hid (Num.Good L) := g
  have HA : Hid (Calls Try.prog 31 #[.pointer (some ⟨q, 0, none⟩)] w fun e w' => ∃ a c, e = .returned (.slice a L.length c) ∧ Hid (Rw 5 acs w' a (L.map Kn.a) ∧ Below w.heap.size w w')) := (xall (Num.Good.sml g) w hkn hrw).mono fun e w' hh => by
    obtain ⟨a, c, rfl, h1, h2⟩ := NwP.rw acs_len hh
    exact ⟨a, c, by simp, h1, h2⟩
  have HP : Hid (∀ w1, Below w.heap.size w w1 → Calls Try.prog 32 #[.pointer (some ⟨q, 0, none⟩)] w1 fun e w' => ∃ a c, e = .returned (.slice a (sel prF L).length c) ∧ Hid (Rw 2 prc w' a (sel prF L) ∧ Below w1.heap.size w1 w')) := fun w1 hb1 => by
    obtain ⟨ra2, rc2, e0, _, hrw2, hkn2⟩ := (h.below hb1).known
    exact (xprices (Num.Good.sml HG.out) w1 hkn2 hrw2).mono fun e w' hh => by
      obtain ⟨a, c, rfl, h1, h2⟩ := NwP.rw prc_len hh
      exact ⟨a, c, rfl, h1, h2⟩
  have HR : Hid (Rw 6 kcs w al L) := hr
  have hlz : (L.length : Int) ≤ 64 := by have := g.len; omega
  clear h g hr hrw hkn
  go_enter Try.func11, Try.ntmps11
  go_wp2_with (first | (go_at_call 31; refine HA.out.mono ?_; clear HA; rintro e w1 ⟨aa, ac, rfl, HZ1⟩) | (go_at_call 32; refine (HP.out _ HZ1.out.2).mono ?_; clear HP; rintro e w2 ⟨pa, pc, rfl, HZ2⟩))
  have HS2 : Hid (Below w.heap.size w w2 ∧ Rw 5 acs w2 aa (L.map Kn.a) ∧ Rw 2 prc w2 pa (sel prF L)) := ⟨HZ1.out.2.trans (HZ2.out.2.mono HZ1.out.2.size), HZ1.out.1.below HZ2.out.2, HZ2.out.1⟩
  clear HZ1 HZ2
  go_loopw [7, 8] (fun n i wr => ∃ k : Nat, k ≤ L.length ∧ i = .int .i64 k ∧ n = .int .i64 (sel prF (L.take k)).length ∧ Hid (Below w2.heap.size w2 wr))
    (fun _ i _ => L.length - (intOf i).toNat)
  case atStart => exact ⟨0, Nat.zero_le _, rfl, rfl, Below.refl _ _⟩
  case round =>
    obtain ⟨k, hk, rfl, rfl, HB⟩ := hrel
    have HQ : Hid (∀ n, Below w2.heap.size w2 (wr.drewN n)) := fun n => N1.below_drewN HB.out
    by_cases hkn : k < L.length
    · have hkz : (k : Int) < (L.length : Int) := by omega
      obtain ⟨b1, o1, rfl, hb1, hc1⟩ := HS2.out.2.1 (by simp; omega)
      obtain ⟨b3, o3, rfl, hb3, hc3⟩ := HR.out (by omega)
      have HCs : Hid (∀ wr, Below w2.heap.size w2 wr → (wr.cell? ⟨b1, o1 + k * 5, none⟩ = some (.string L[k].a.i) ∧ wr.cell? ⟨b1, o1 + k * 5 + 1, none⟩ = some (.int .i64 L[k].a.iss) ∧ wr.cell? ⟨b1, o1 + k * 5 + 2, none⟩ = some (.int .i64 L[k].a.rat) ∧ wr.cell? ⟨b1, o1 + k * 5 + 3, none⟩ = some (.int .i64 L[k].a.mat) ∧ wr.cell? ⟨b1, o1 + k * 5 + 4, none⟩ = some (.string L[k].a.c)) ∧ wr.cell? ⟨b3, o3 + k * 6, none⟩ = some (.string L[k].a.i) ∧ wr.cell? ⟨b3, o3 + k * 6 + 1, none⟩ = some (.int .i64 L[k].a.iss) ∧ wr.cell? ⟨b3, o3 + k * 6 + 2, none⟩ = some (.int .i64 L[k].a.rat) ∧ wr.cell? ⟨b3, o3 + k * 6 + 3, none⟩ = some (.int .i64 L[k].a.mat) ∧ wr.cell? ⟨b3, o3 + k * 6 + 4, none⟩ = some (.string L[k].a.c) ∧ wr.cell? ⟨b3, o3 + k * 6 + 5, none⟩ = some (.int .i64 L[k].p)) := fun wr hb => by
        have h5 := Rw.at5 hc1 hb hb1 (k := k) (by simpa using hkn)
        simp only [List.getElem_map] at h5
        exact ⟨h5, Rw.at6 hc3 (HS2.out.1.trans (hb.mono HS2.out.1.size)) hb3 hkn⟩
      have f1 := HG.out.all L[k] (List.getElem_mem hkn)
      have hp0 : 0 ≤ L[k].p := f1.p0
      have HT1 : Hid (L[k].p = 0 → sel prF (L.take (k + 1)) = sel prF (L.take k)) := fun e => sel_none hkn (by unfold prF; rw [if_pos e])
      have HT2 : Hid (¬ L[k].p = 0 → sel prF (L.take (k + 1)) = sel prF (L.take k) ++ [(L[k].a.i, L[k].p)]) := fun e => sel_some hkn (by unfold prF; rw [if_neg e])
      have HPc : Hid (¬ L[k].p = 0 → ∃ b4 o4, pa = some ⟨b4, o4, none⟩ ∧ (sel prF (L.take k)).length < (sel prF L).length ∧ ∀ wr, Below w2.heap.size w2 wr → wr.cell? ⟨b4, o4 + (sel prF (L.take k)).length * 2, none⟩ = some (.string L[k].a.i) ∧ wr.cell? ⟨b4, o4 + (sel prF (L.take k)).length * 2 + 1, none⟩ = some (.int .i64 L[k].p)) := fun e => by
        obtain ⟨hn, hy⟩ := sel_get (f := prF) (y := (L[k].a.i, L[k].p)) hkn (by unfold prF; rw [if_neg e])
        obtain ⟨b4, o4, ea, hb4, hc4⟩ := HS2.out.2.2 (by omega)
        refine ⟨b4, o4, ea, hn, fun wr hb => ?_⟩
        have h0 := (hb.cell (p := ⟨b4, o4 + (sel prF (L.take k)).length * 2 + 0, none⟩) hb4).trans (hc4 _ hn 0 (by omega))
        have h1 := (hb.cell (p := ⟨b4, o4 + (sel prF (L.take k)).length * 2 + 1, none⟩) hb4).trans (hc4 _ hn 1 (by omega))
        rw [hy] at h0 h1
        exact ⟨h0, h1⟩
      have HLn : Hid ((sel prF (L.take k)).length ≤ 64) := by have := sel_len prF (L.take k); rw [List.length_take] at this; unfold Hid; omega
      obtain ⟨N2, hN2⟩ : ∃ N2, N2 = (sel prF (L.take (k + 1))).length := ⟨_, rfl⟩
      have HN2 : Hid (N2 = (sel prF (L.take (k + 1))).length) := hN2
      clear hc1 hc3 f1 hb1 hb3
      generalize L[k] = x at *
      obtain ⟨⟨xi, xa, xb, xc, xs⟩, xp⟩ := x
      simp only at *
      obtain ⟨⟨c0, c1, c2, c3, c4⟩, d0, d1, d2, d3, d4, d5⟩ := HCs.out wr HB.out
      clear hN2
      by_cases hp : xp = 0
      · have hpz : ¬ (0 : Int) < xp := by omega
        have HE : Hid (N2 = (sel prF (L.take k)).length) := by unfold Hid; rw [HN2.out, HT1.out hp]
        clear hp HT1 HT2 HPc HCs HB
        generalize (sel prF (L.take k)).length = N at *
        go_wp2_with fail
        go_quiet (fail)
        go_wp2_with fail
        go_roundw
        case rel => exact ⟨k + 1, by omega, by simp, by rw [← HN2.out, HE.out], HQ.out _⟩
        case measure => simp [intOf]; omega
      · have hpz : (0 : Int) < xp := by omega
        obtain ⟨b4, o4, rfl, hn, hpc⟩ := HPc.out hp
        have HPC : Hid (∀ wr, Below w2.heap.size w2 wr → wr.cell? ⟨b4, o4 + (sel prF (L.take k)).length * 2, none⟩ = some (.string xi) ∧ wr.cell? ⟨b4, o4 + (sel prF (L.take k)).length * 2 + 1, none⟩ = some (.int .i64 xp)) := hpc
        have HE : Hid (N2 = (sel prF (L.take k)).length + 1) := by unfold Hid; rw [HN2.out, HT2.out hp, List.length_append]; rfl
        have hnz : ((sel prF (L.take k)).length : Int) < ((sel prF L).length : Int) := by omega
        have hln := HLn.out
        have hnz2 : ¬ ((sel prF L).length : Int) ≤ ((sel prF (L.take k)).length : Int) := by omega
        have hnz3 : decide ((sel prF L).length ≤ (sel prF (L.take k)).length) = false := decide_eq_false (by omega)
        clear hp HT1 HT2 HPc HB hpc hn HLn
        generalize (sel prF (L.take k)).length = N at *
        generalize (sel prF L).length = NL at *
        go_wp2_with fail
        go_quiet (fail)
        have hq := HQ.out nq
        clear HQ c0 c1 c2 c3 c4 d0 d1 d2 d3 d4 d5
        generalize wr.drewN nq = wq at *
        have HQ : Hid (∀ n, Below w2.heap.size w2 (wq.drewN n)) := fun n => N1.below_drewN hq
        obtain ⟨-, d0, -, -, -, -, d5⟩ := HCs.out wq hq
        obtain ⟨g0, g1⟩ := HPC.out wq hq
        clear hq HCs HPC
        go_wp2_with fail
        go_quiet (fail)
        go_wp2_with fail
        go_roundw
        case rel => exact ⟨k + 1, by omega, by simp, by rw [← HN2.out, HE.out]; simp, HQ.out _⟩
        case measure => simp [intOf]; omega
    · have hkz : ¬ (k : Int) < (L.length : Int) := by omega
      have hkl : k = L.length := by omega
      have HBF : Hid (Below w.heap.size w wr) := HS2.out.1.trans (HB.out.mono HS2.out.1.size)
      have hsz : (sel prF (L.take k)).length = (sel prF L).length := by rw [hkl, List.take_length]
      rw [hsz]
      clear hkl hsz HQ HB
      go_wp2_with fail
      go_ret
      exact ⟨by simp, HBF.out⟩
end Go.Proofs.Ytbgdmpaghkmadaa
