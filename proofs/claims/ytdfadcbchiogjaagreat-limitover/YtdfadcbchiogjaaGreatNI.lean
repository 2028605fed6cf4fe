/- layer 16: keys of a map, sorted; values of a map, collected -/
import Derived.Test.YtdfadcbchiogjaaGreatNA
import Derived.WalkKit
import Derived.ProofKit
import Derived.Handy
import Derived.WalkLawsBesides
import Derived.WalkSpells
import Derived.BigQuiet
import Derived.BigCall
import Derived.Deep.QuietTactic
import Derived.Deep.Light
import Derived.Deep.OwnRows
import Derived.Laws.AppendOwnNone
import Derived.Laws.Strings3
import Derived.Laws.RangeAny
import Derived.Deep.RegionWith
import Derived.Lib.BitFns
import Derived.Lib.Walk
import Derived.Lib.Strings
import Derived.Lib.OthersKept
import Derived.Deep.CutBlock
import Derived.Deep.DeepCutAuto
import Derived.Deep.LoopGhost
import Derived.Deep.RegionHeld3
import Derived.Lib.SmallJoins
import Derived.Maps.AppendAt
import Derived.Laws.IdiomStrings
import Derived.Lib.AppendZeros
import Derived.Deep.WholeRow
import Derived.Laws.BitsAllLaws
import Derived.Lib.ConvBytes
import Derived.Deep.RegionLaw
import Derived.Maps.OwnSet
import Derived.Maps.OwnOps
import Derived.Maps.RangeWalk
import Derived.Maps.Ext
import Derived.DeepKeys4
import Derived.Laws.StructEq
import Derived.Deep.MidRow
import Derived.Lib.Bytealg
import Derived.Lib.AppendZerosOnto
import Derived.Laws.MakeOwn
import Derived.Deep.Upon
import Derived.Sort.KeysCollected
import Derived.Shelf.AbstractIn
import Derived.RangeFuncSeq
import Derived.RangeFuncGives
import Derived.Sort.MapsRangeIn
import Derived.OwnWalkIn
import Derived.TacticsInMore
import Derived.RegionIn
import Derived.LoopNIn
import Derived.LoopIn
import Derived.Lib.SlKeysI
namespace Go.Proofs.YtdfadcbchiogjaaGreat
open Go.RowKit
set_option linter.unusedVariables false
set_option linter.unusedSimpArgs false
set_option maxRecDepth 20000
open Go.Maps Go.Sort Go.Shelf
theorem sortsI (m : Nat) : AnyZI.SortsIn Tryz.prog Tryz.sortedI_ren Fence.wide m :=
  ⟨fun blk off cap ss W hH hblk hsz => callsIn_wide.2 (Tryz.slices_Sort_int blk off cap ss W hH hblk hsz), fun p cap W => callsIn_wide.2 (Tryz.slices_Sort_int_none p cap W)⟩
theorem sortsS (m : Nat) : AnyZ.SortsIn Tryz.prog Tryz.sortedS_ren Fence.wide m :=
  ⟨fun blk off cap ss W hH hblk hsz => callsIn_wide.2 (Tryz.slices_Sort_string blk off cap ss W hH hblk hsz), fun p cap W => callsIn_wide.2 (Tryz.slices_Sort_string_none p cap W)⟩
theorem xkeysI (mb : Option Nat) (w : World) : Calls Tryz.prog 27 #[.map mb] w fun e w' => e = .returned (.func (.func 48) #[] #[.pointer (some ⟨w.heap.size, 0, none⟩)]) ∧ w' = w.alloc (.cells #[.map mb] 73) :=
  (callsIn_wide (n := 6)).1 (AnyZI.keys_in Tryz.keysI Fence.wide 6 trivial rfl mb w)
theorem xkeysS (mb : Option Nat) (w : World) : Calls Tryz.prog 42 #[.map mb] w fun e w' => e = .returned (.func (.func 70) #[] #[.pointer (some ⟨w.heap.size, 0, none⟩)]) ∧ w' = w.alloc (.cells #[.map mb] 85) :=
  (callsIn_wide (n := 6)).1 (AnyZ.keys_in Tryz.keysS Fence.wide 6 trivial rfl mb w)
theorem om_alloc {H : Type} {K b n : Nat} {R : Value → Option (DataW H × List MemPlace)} {w : World} {D : DataW H} (h : w.ownsMap Tryz.prog K R b n D) (o : Obj) : (w.alloc o).ownsMap Tryz.prog K R b n D := by
  have hbl := h.lt
  obtain ⟨es, clock, hb, Ft, hs, hD⟩ := h
  exact ⟨es, clock, (Below.heap_alloc _ _ b hbl).trans hb, Ft, hs, hD⟩
def SoI (f : Int → Int) (B T : Nat) (w : World) (e : Ending) (w' : World) : Prop := ∃ (v : Value) (S : List Int), e = .returned v ∧ S.Pairwise (fun a b => decide (a < b) = true) ∧ (∀ a, a ∈ S ↔ f a ≠ 0) ∧ w'.ownsRow B T 1 v S.length (S.map encZ) ∧ Below w.heap.size w w'
theorem xsortedI {w : World} {m : Nat} {f : Int → Int} (h : Ti w m f) {S : List Int} (hS : ∀ b, f b ≠ 0 → b ∈ S) (hl : S.length ≤ 1000000) :
    Calls Tryz.prog 26 #[.func (.func 48) #[] #[.pointer (some ⟨w.heap.size, 0, none⟩)]] (w.alloc (.cells #[.map (some m)] 73)) (SoI f (w.heap.size + 1) 3 (w.alloc (.cells #[.map (some m)] 73))) := by
  obtain ⟨L, es, h1, h2, h3, h4, h5, h6⟩ := h.own
  have hp : (intKeys (DataW.map es : Dt)).Perm (L.map Prod.fst) := by
    show (es.map fun p => Go.intOf p.1).Perm _
    have := h2.map (fun p => Go.intOf p.1)
    rw [List.map_map] at this
    exact this
  have hsz : Maps.size (DataW.map es : Dt) = L.length := by rw [Maps.size_eq, h2.length_eq, List.length_map]
  have hL : L.length ≤ 1000000 := by
    have := nd_len h4 (L := S) (fun x hx => by
      obtain ⟨p, hp, rfl⟩ := List.mem_map.1 hx
      refine hS _ ?_
      rw [← (h5 p hp).1]
      exact (h5 p hp).2)
    rw [List.length_map] at this
    omega
  have hseq : SeqGives Fence.wide 2 Tryz.prog 48 #[.pointer (some ⟨w.heap.size, 0, none⟩)] encZ (fun ss => ss.Perm (intKeys (DataW.map es : Dt))) (Maps.size (DataW.map es : Dt)) (w.alloc (.cells #[.map (some m)] 73)) :=
    AnyZI.keys_gives (ρ := Tryz.keysI_ren) { Tryz.keysI with } Fence.wide _ trivial rfl (by omega) w.heap.size m L.length _ _ (by simp) (by simp) (om_alloc h1 _)
  have cS := AnyZI.sorted_in Tryz.sortedI Fence.wide 5 trivial trivial trivial trivial rfl (by omega) (sortsI _) (enters_of Tryz.func47 (by kernel_rfl) rfl) 48 #[.pointer (some ⟨w.heap.size, 0, none⟩)] trivial (enters_of Tryz.func48 (by kernel_rfl) rfl) _ _ (by rw [hsz]; unfold maxLen; omega) (by rw [hsz]; omega) _ hseq
  refine ((callsIn_wide (n := 5)).1 cS).mono fun e w' hh => ?_
  obtain ⟨v, ss, rfl, hs, hr, -, hb⟩ := hh
  have hn := sorted_i (hs.trans hp) h4
  refine ⟨v, _, rfl, hn.1, fun a => ?_, ?_, hb⟩
  · rw [hn.2]
    constructor
    · intro ha
      obtain ⟨p, hp, rfl⟩ := List.mem_map.1 ha
      rw [← (h5 p hp).1]
      exact (h5 p hp).2
    · exact h6 a
  · rw [List.length_mergeSort]
    have : (w.alloc (.cells #[.map (some m)] 73)).heap.size = w.heap.size + 1 := by simp
    rw [← this]
    exact hr
def SoS (f : List UInt8 → Int) (B T : Nat) (w : World) (e : Ending) (w' : World) : Prop := ∃ (v : Value) (S : List (List UInt8)), e = .returned v ∧ S.Pairwise (fun a b => decide (a < b) = true) ∧ (∀ a, a ∈ S ↔ f a ≠ 0) ∧ (∀ a ∈ S, a.length ≤ maxLen) ∧ w'.ownsRow B T 1 v S.length (S.map encStr) ∧ Below w.heap.size w w'
theorem xsortedS {w : World} {m : Nat} {f : List UInt8 → Int} (h : Ts w m f) {S : List (List UInt8)} (hS : ∀ b, f b ≠ 0 → b ∈ S) (hl : S.length ≤ 1000000) :
    Calls Tryz.prog 41 #[.func (.func 70) #[] #[.pointer (some ⟨w.heap.size, 0, none⟩)]] (w.alloc (.cells #[.map (some m)] 85)) (SoS f (w.heap.size + 1) 9 (w.alloc (.cells #[.map (some m)] 85))) := by
  obtain ⟨L, es, h1, h2, h3, h4, h5, h6⟩ := h.own
  have hp : (strKeys (DataW.map es : Dt)).Perm (L.map Prod.fst) := by
    show (es.map fun p => Go.strOf p.1).Perm _
    have := h2.map (fun p => Go.strOf p.1)
    rw [List.map_map] at this
    exact this
  have hsz : Maps.size (DataW.map es : Dt) = L.length := by rw [Maps.size_eq, h2.length_eq, List.length_map]
  have hL : L.length ≤ 1000000 := by
    have := nd_len h4 (L := S) (fun x hx => by
      obtain ⟨p, hp, rfl⟩ := List.mem_map.1 hx
      refine hS _ ?_
      rw [← (h5 p hp).1]
      exact (h5 p hp).2)
    rw [List.length_map] at this
    omega
  have hseq : SeqGives Fence.wide 2 Tryz.prog 70 #[.pointer (some ⟨w.heap.size, 0, none⟩)] encStr (fun ss => ss.Perm (strKeys (DataW.map es : Dt))) (Maps.size (DataW.map es : Dt)) (w.alloc (.cells #[.map (some m)] 85)) :=
    AnyZ.keys_gives (ρ := Tryz.keysS_ren) { Tryz.keysS with } Fence.wide _ trivial rfl (by omega) w.heap.size m L.length _ _ (by simp) (by simp) (om_alloc h1 _)
  have cS := AnyZ.sorted_in Tryz.sortedS Fence.wide 5 trivial trivial trivial trivial rfl (by omega) (sortsS _) (enters_of Tryz.func69 (by kernel_rfl) rfl) 70 #[.pointer (some ⟨w.heap.size, 0, none⟩)] trivial (enters_of Tryz.func70 (by kernel_rfl) rfl) _ _ (by rw [hsz]; unfold maxLen; omega) (by rw [hsz]; omega) _ hseq
  refine ((callsIn_wide (n := 5)).1 cS).mono fun e w' hh => ?_
  obtain ⟨v, ss, rfl, hs, hr, -, hb⟩ := hh
  have hn := sorted_s (hs.trans hp) h4
  refine ⟨v, _, rfl, hn.1, fun a => ?_, fun a ha => ?_, ?_, hb⟩
  · rw [hn.2]
    constructor
    · intro ha
      obtain ⟨p, hp, rfl⟩ := List.mem_map.1 ha
      rw [← (h5 p hp).1]
      exact (h5 p hp).2
    · exact h6 a
  · obtain ⟨p, hp, rfl⟩ := List.mem_map.1 ((hn.2 a).1 ha)
    exact h3 p hp
  · rw [List.length_mergeSort]
    have : (w.alloc (.cells #[.map (some m)] 85)).heap.size = w.heap.size + 1 := by simp
    rw [← this]
    exact hr
end Go.Proofs.YtdfadcbchiogjaaGreat
