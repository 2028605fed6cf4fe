/- Layer 10: lists in memory; haircuts and barred ones, by the program and by the reference. -/
import Derived.Test.YtdmlgheajblcdaaGreatMJ
import Derived.WalkKit
import Derived.ProofKit
import Derived.Handy
import Derived.WalkLawsBesides
import Derived.WalkSpells
import Derived.BigQuiet
import Derived.BigCall
import Derived.Deep.QuietTactic
import Derived.Deep.Light
import Derived.Deep.OwnRows
import Derived.Laws.AppendOwnNone
import Derived.Laws.Strings3
import Derived.Laws.RangeAny
import Derived.Deep.RegionWith
import Derived.Lib.BitFns
import Derived.Lib.Walk
import Derived.Lib.Strings
import Derived.Lib.OthersKept
import Derived.Deep.CutBlock
import Derived.Deep.DeepCutAuto
import Derived.Deep.LoopGhost
import Derived.Deep.RegionHeld3
import Derived.Lib.SmallJoins
import Derived.Maps.AppendAt
import Derived.Laws.IdiomStrings
import Derived.Lib.AppendZeros
import Derived.Deep.WholeRow
import Derived.Laws.BitsAllLaws
import Derived.Lib.ConvBytes
import Derived.Deep.RegionLaw
namespace Go.Proofs.YtdmlgheajblcdaaGreat
open Go.RowKit
set_option linter.unusedVariables false
set_option linter.unusedSimpArgs false
set_option maxRecDepth 20000
def Cts (B : Nat) (w : World) (a : Option Addr) (xs : List Ct) : Prop := 0 < xs.length → ∃ b off, a = some ⟨b, off, none⟩ ∧ b < B ∧ ∀ j (h : j < xs.length), w.cell? ⟨b, off + j * 3, none⟩ = some (.int .i64 xs[j].d) ∧ w.cell? ⟨b, off + j * 3 + 1, none⟩ = some (.int .i64 xs[j].r) ∧ w.cell? ⟨b, off + j * 3 + 2, none⟩ = some (.int .i64 xs[j].c)
def Lts (B : Nat) (w : World) (a : Option Addr) (xs : List Lt) : Prop := 0 < xs.length → ∃ b off, a = some ⟨b, off, none⟩ ∧ b < B ∧ ∀ j (h : j < xs.length), w.cell? ⟨b, off + j * 2, none⟩ = some (.string ⟨xs[j].i.toArray⟩) ∧ w.cell? ⟨b, off + j * 2 + 1, none⟩ = some (.int .i64 xs[j].q)
theorem Cts.keep {B : Nat} {w w' : World} {a : Option Addr} {xs : List Ct} (h : Cts B w a xs) (hb : Below B w w') : Cts B w' a xs := fun h0 => by
  obtain ⟨b, off, rfl, hB, hc⟩ := h h0
  exact ⟨b, off, rfl, hB, fun j hj => ⟨(hb.cell (by exact hB)).trans (hc j hj).1, (hb.cell (by exact hB)).trans (hc j hj).2.1, (hb.cell (by exact hB)).trans (hc j hj).2.2⟩⟩
theorem Cts.mono {B C : Nat} {w : World} {a : Option Addr} {xs : List Ct} (h : Cts B w a xs) (hb : B ≤ C) : Cts C w a xs := fun h0 => by
  obtain ⟨b, off, rfl, hB, hc⟩ := h h0
  exact ⟨b, off, rfl, Nat.lt_of_lt_of_le hB hb, hc⟩
theorem Lts.keep {B : Nat} {w w' : World} {a : Option Addr} {xs : List Lt} (h : Lts B w a xs) (hb : Below B w w') : Lts B w' a xs := fun h0 => by
  obtain ⟨b, off, rfl, hB, hc⟩ := h h0
  exact ⟨b, off, rfl, hB, fun j hj => ⟨(hb.cell (by exact hB)).trans (hc j hj).1, (hb.cell (by exact hB)).trans (hc j hj).2⟩⟩
theorem Lts.mono {B C : Nat} {w : World} {a : Option Addr} {xs : List Lt} (h : Lts B w a xs) (hb : B ≤ C) : Lts C w a xs := fun h0 => by
  obtain ⟨b, off, rfl, hB, hc⟩ := h h0
  exact ⟨b, off, rfl, Nat.lt_of_lt_of_le hB hb, hc⟩
theorem KP.mk {v u : Value} {w w' : World} (h : u = v) (hb : Below w.heap.size w w') : KP v w (.returned u) w' := ⟨by rw [h], hb⟩
theorem drop_at' {α : Type} {l : List α} {k : Nat} (h : k < l.length) : l.drop k = l[k] :: l.drop (k + 1) := List.drop_eq_getElem_cons h
theorem all_at {α : Type} {p : α → Bool} {l : List α} {k : Nat} (h : k < l.length) : (l.drop k).all p = (p l[k] && (l.drop (k + 1)).all p) := by
  rw [drop_at' h, List.all_cons]
set_option maxHeartbeats 4000000 in
theorem xcuts (xs : List Ct) (a : Option Addr) (cap : Nat) (w : World) (hC : Cts w.heap.size w a xs) (hl : xs.length ≤ 9223372036854775807) (g : Bool) (hg : xs.all cutB = g) : Calls Tryz.prog 43 #[.slice a xs.length cap] w (KP (.bool g) w) := by
  have HI : Hid (Cts w.heap.size w a xs) := hC
  have HG : Hid (xs.all cutB = g) := hg
  clear hC hg
  go_enter Tryz.func43, Tryz.ntmps43
  go_wp2_with fail
  go_loopw [7] (fun i wr => ∃ (k : Nat), i = .int .i64 k ∧ k ≤ xs.length ∧ Hid ((xs.drop k).all cutB = g) ∧ Hid (Below w.heap.size w wr)) (fun i _ => xs.length - (Lib.intOf i).toNat)
  case atStart => exact ⟨0, rfl, Nat.zero_le _, HG, Below.refl _ _⟩
  case round =>
    obtain ⟨k, rfl, hk, HK, HB⟩ := hrel
    by_cases hkn : k < xs.length
    · have hkz : (k : Int) < (xs.length : Int) := by omega
      obtain ⟨b, off, rfl, hbl, hce⟩ := HI.out (by omega)
      obtain ⟨h1, h2, h3⟩ := hce k hkn
      have hc1 : wr.cell? ⟨b, off + k * 3, none⟩ = some (.int .i64 xs[k].d) := (HB.out.cell (by exact hbl)).trans h1
      have hc2 : wr.cell? ⟨b, off + k * 3 + 1, none⟩ = some (.int .i64 xs[k].r) := (HB.out.cell (by exact hbl)).trans h2
      have hc3 : wr.cell? ⟨b, off + k * 3 + 2, none⟩ = some (.int .i64 xs[k].c) := (HB.out.cell (by exact hbl)).trans h3
      have HK2 : Hid ((cutB xs[k] && (xs.drop (k + 1)).all cutB) = g) := by unfold Hid; rw [← all_at hkn]; exact HK.out
      have HB2 : Hid (∀ o, Below w.heap.size w (wr.alloc o)) := fun o => HB.out.alloc HB.out.size _
      clear hce h1 h2 h3 HK
      unfold cutB at HK2
      generalize xs[k].d = d at *
      generalize xs[k].r = r at *
      generalize xs[k].c = c at *
      by_cases e1 : inn d 0 200000 = true
      · by_cases e2 : inn r 0 20 = true
        · by_cases e3 : inn c 0 999999 = true
          · have HK3 : Hid ((xs.drop (k + 1)).all cutB = g) := by have := HK2.out; rw [e1, e2, e3] at this; exact this
            clear HK2
            go_wp2_with (first | (go_at_call 39; refine (xwithin _ _ _ _ (by first | exact e1 | exact e3) _).mono ?_; rintro e w2 ⟨rfl, rfl⟩) | (go_at_call 41; refine (xrating _ _ e2 _).mono ?_; rintro e w2 ⟨rfl, rfl⟩))
            exact ⟨⟨k + 1, by go_num, by omega, HK3, HB2.out _⟩, by simp [Lib.intOf]; omega⟩
          · have e3 : inn c 0 999999 = false := by simpa using e3
            have HK3 : Hid (false = g) := by have := HK2.out; rw [e1, e2, e3] at this; exact this
            clear HK2
            go_wp2_with (first | (go_at_call 39; refine (xwithin _ _ _ _ (by first | exact e1 | exact e3) _).mono ?_; rintro e w2 ⟨rfl, rfl⟩) | (go_at_call 41; refine (xrating _ _ e2 _).mono ?_; rintro e w2 ⟨rfl, rfl⟩))
            go_ret
            exact KP.mk (congrArg Value.bool HK3.out) (HB2.out _)
        · have e2 : inn r 0 20 = false := by simpa using e2
          have HK3 : Hid (false = g) := by have := HK2.out; rw [e1, e2] at this; exact this
          clear HK2
          go_wp2_with (first | (go_at_call 39; refine (xwithin _ _ _ _ e1 _).mono ?_; rintro e w2 ⟨rfl, rfl⟩) | (go_at_call 41; refine (xrating _ _ e2 _).mono ?_; rintro e w2 ⟨rfl, rfl⟩))
          go_ret
          exact KP.mk (congrArg Value.bool HK3.out) (HB2.out _)
      · have e1 : inn d 0 200000 = false := by simpa using e1
        have HK3 : Hid (false = g) := by have := HK2.out; rw [e1] at this; exact this
        clear HK2
        go_wp2_with (go_at_call 39; refine (xwithin _ _ _ _ e1 _).mono ?_; rintro e w2 ⟨rfl, rfl⟩)
        go_ret
        exact KP.mk (congrArg Value.bool HK3.out) (HB2.out _)
    · have hkz : ¬ (k : Int) < (xs.length : Int) := by omega
      have HK3 : Hid (true = g) := by have := HK.out; rw [List.drop_of_length_le (by omega)] at this; exact this
      go_wp2_with fail
      go_ret
      exact KP.mk (congrArg Value.bool HK3.out) HB.out
end Go.Proofs.YtdmlgheajblcdaaGreat
