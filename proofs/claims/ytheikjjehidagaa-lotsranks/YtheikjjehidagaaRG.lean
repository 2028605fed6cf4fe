/- layer 17: items sorted, by the program -/
import Derived.Test.YtheikjjehidagaaRF
import Derived.Test.YtheikjjehidagaaND
import Derived.WalkKit
import Derived.ProofKit
import Derived.Handy
import Derived.WalkLawsBesides
import Derived.WalkSpells
import Derived.BigQuiet
import Derived.BigCall
import Derived.Deep.QuietTactic
import Derived.Deep.Light
import Derived.Deep.OwnRows
import Derived.Laws.AppendOwnNone
import Derived.Laws.Strings3
import Derived.Laws.RangeAny
import Derived.Deep.RegionWith
import Derived.Lib.BitFns
import Derived.Lib.Walk
import Derived.Lib.Strings
import Derived.Lib.OthersKept
import Derived.Deep.CutBlock
import Derived.Deep.DeepCutAuto
import Derived.Deep.LoopGhost
import Derived.Deep.RegionHeld3
import Derived.Lib.SmallJoins
import Derived.Maps.AppendAt
import Derived.Laws.IdiomStrings
import Derived.Lib.AppendZeros
import Derived.Deep.WholeRow
import Derived.Laws.BitsAllLaws
import Derived.Lib.ConvBytes
import Derived.Deep.RegionLaw
import Derived.Maps.OwnSet
import Derived.Maps.OwnOps
import Derived.Maps.RangeWalk
import Derived.Maps.Ext
import Derived.DeepKeys4
import Derived.Laws.StructEq
import Derived.Deep.MidRow
import Derived.Lib.Bytealg
import Derived.Lib.AppendZerosOnto
import Derived.Laws.MakeOwn
import Derived.Deep.Upon
import Derived.Sort.KeysCollected
import Derived.Shelf.SlSortCmp.KitK
namespace Go.Proofs.Ytheikjjehidagaa
open Go.RowKit
set_option linter.unusedVariables false
set_option linter.unusedSimpArgs false
open Go.Sort (grow SWO PermIn SortedIn HoldsK swp putRowK permIn_refl permIn_trans insertionSort)
open H5 (It its its_len its_one)
set_option maxRecDepth 20000
set_option linter.unusedSectionVars false
theorem info47 : (Try.prog.info? 47).map (fun i => (i.zero, i.size, i.bytes)) = some (some (.agg #[.string ⟨#[]⟩, .int .i64 0, .string ⟨#[]⟩, .int .i64 0, .int .i64 0, .int .i64 0, .string ⟨#[]⟩, .int .i64 0, .int .i64 0]), 9, 96) := by kernel_rfl
abbrev Oi (B : Nat) (w : World) (v : Value) (L : List It) : Prop := w.ownsRow B 47 9 v L.length (rcs its L)
theorem xins0 (a : Option Addr) (cap : Nat) (W : World) : Calls Try.prog 96 #[.slice a 0 cap, .int .i64 0, .int .i64 0, .func (.func 49) #[] #[]] W fun x w' => x = .returned (.tuple #[]) ∧ W = w' := by
  go_enter Try.func96, Try.ntmps96
  go_wp2_with fail
  go_loopw [8] (fun i wr => i = .int .i64 1 ∧ W = wr) (fun _ _ => 0)
  case atStart => exact ⟨rfl, rfl⟩
  case round =>
    obtain ⟨rfl, rfl⟩ := hrel
    go_wp2_with fail
    go_end0
    exact ⟨rfl, rfl⟩
theorem xstable0 (a : Option Addr) (cap : Nat) (W : World) : Calls Try.prog 71 #[.slice a 0 cap, .int .i64 0, .func (.func 49) #[] #[]] W fun x w' => x = .returned (.tuple #[]) ∧ W = w' := by
  have HI : Hid (Calls Try.prog 96 #[.slice a 0 cap, .int .i64 0, .int .i64 0, .func (.func 49) #[] #[]] W fun x w' => x = .returned (.tuple #[]) ∧ W = w') := xins0 a cap W
  go_enter Try.func71, Try.ntmps71
  go_wp2_with fail
  go_loopw [7, 8] (fun x y wr => x = .int .i64 0 ∧ y = .int .i64 20 ∧ W = wr) (fun _ _ _ => 0)
  case atStart => exact ⟨rfl, rfl, rfl⟩
  case round =>
    obtain ⟨rfl, rfl, rfl⟩ := hrel
    go_wp2_with (go_at_call 96; refine HI.out.mono ?_; rintro x w1 ⟨rfl, rfl⟩)
    go_loopw [6] (fun x wr2 => x = .int .i64 20 ∧ W = wr2) (fun _ _ => 0)
    case atStart => exact ⟨rfl, rfl⟩
    case round =>
      obtain ⟨rfl, rfl⟩ := hrel
      go_wp2_with fail
      go_end0
      exact ⟨rfl, rfl⟩
/-- an append of an item -/
theorem ap_item {B : Nat} {w : World} {v : Value} {L : List It} (h : Oi B w v L) (hB : B ≤ w.heap.size) (hl : L.length ≤ 1000000) (x : It) {W : World} (hb : Below w.heap.size w W) :
    ∃ v' w6, (Builtin.append_ #[50, 50] 50 #[v, .slice (some ⟨W.heap.size, 0, none⟩) 1 1]).run Try.prog (W.alloc (.cells (its x).toArray 47)) = .ok v' w6 ∧ Hid (Oi B w6 v' (L ++ [x]) ∧ Below B w w6) := by
  have hO := own_below h hb
  obtain ⟨i0, hi, hz0, hz1, hz2⟩ := info_parts info47
  obtain ⟨v', w', hr, ho, hgr, _, hat⟩ := run_append_own_at (P := Try.prog) (w := W.alloc (.cells (its x).toArray 47)) B 50 50 47 i0 _ 9 96 Try.underlying50 hi hz0 hz1 hz2 rfl (by omega) v _ _ (hO.alloc _) ⟨W.heap.size, 0, none⟩ 1 1 (its x) rfl (cell_new (cs := its x)) (its_one x) (by unfold maxLen; omega) (by omega) (by have := hb.size; simp; omega)
  refine ⟨v', w', hr, ?_, ?_⟩
  · show w'.ownsRow B 47 9 v' (L ++ [x]).length _
    rw [rcs_snoc, List.length_append]
    exact ho
  · have hb2 : Below w.heap.size w (W.alloc (.cells (its x).toArray 47)) := hb.alloc hb.size _
    exact ⟨hgr.os.trans hb2.os, hgr.tape.trans hb2.tape, hgr.output.trans hb2.output, Nat.le_trans hb2.size hgr.size, fun k hk => (hgr.block k (by have := hb2.size; omega) (fun e => by have := (h.lt _ e.symm).1; omega)).trans (hb2.block k (by omega))⟩
section
variable [Inhabited It]
theorem sv_below {B : Nat} {w0 W : World} {g : Nat} {d : Array Ei} (h : Sv w0 g 0 d W) (hB : B ≤ w0.heap.size) (hg : B ≤ g) : Below B w0 W := by
  obtain ⟨q, os, rfl⟩ := h
  have hsz : w0.heap.size ≤ (Go.Proofs.sortWorldK ies 9 w0 g 0 q d os).heap.size := by
    unfold Go.Proofs.sortWorldK grow putRowK Go.Sort.putRow Go.Sort.mapBlock Go.Sort.ahead
    simp
  refine ⟨rfl, rfl, rfl, hsz, fun k hk => ?_⟩
  unfold Go.Proofs.sortWorldK grow putRowK Go.Sort.putRow Go.Sort.mapBlock Go.Sort.ahead
  simp only
  rw [Array.getElem?_append_left (by simp; omega), Array.getElem?_modify, if_neg (by omega)]
theorem holdsI {w : World} {g : Nat} {L : List It} (hc : ∀ i u, (rcs its L)[i]? = some u → w.cell? ⟨g, i, none⟩ = some u) (hf : ∀ i, w.frozen? ⟨g, i, none⟩ = false) : HoldsK ies 9 w g 0 (SS.tag L).toArray := by
  intro j hj
  rw [Go.Sort.size_flatK] at hj
  have hj' : j < L.length * 9 := by have := SS.tag_len L; simpa [this] using hj
  refine ⟨?_, hf _⟩
  have h1 : j / 9 < L.length := by omega
  have h2 := flat_at its 9 its_len L (j / 9) h1 (j % 9) (Nat.mod_lt _ (by omega))
  rw [show j / 9 * 9 + j % 9 = j by omega] at h2
  have h3 : j % 9 < (its L[j / 9]).length := by rw [its_len]; exact Nat.mod_lt _ (by omega)
  have h4 := hc j ((its L[j / 9])[j % 9]) (by unfold rcs; rw [h2, List.getElem?_eq_getElem h3])
  rw [Nat.zero_add, h4, Go.Sort.get_flatK _ _ _ _ hj]
  rw [SS.tag_at L (j / 9) h1]
  show some _ = some (id (its L[j / 9])[j % 9]!)
  rw [getElem!_pos (its L[j / 9]) (j % 9) h3]
  rfl
def StP (B : Nat) (L : List It) (a : Option Addr) (w : World) (e : Ending) (w' : World) : Prop := e = .returned (.tuple #[]) ∧ Hid (Rw 9 its w' a (SS.rnk ltI L) ∧ Below B w w')
theorem xsort {B : Nat} {w : World} {a : Option Addr} {cap : Nat} {L : List It} (h : Oi B w (.slice a L.length cap) L) (hB : B ≤ w.heap.size) (hl : L.length ≤ 1000000) : Calls Try.prog 48 #[.slice a L.length cap, .func (.func 49) #[] #[]] w (StP B L a w) := by
  have HC : Hid (Calls Try.prog 71 #[.slice a L.length cap, .int .i64 L.length, .func (.func 49) #[] #[]] w fun x w' => x = .returned (.tuple #[]) ∧ Hid (StP B L a w (.returned (.tuple #[])) w')) := by
    by_cases h0 : L.length = 0
    · obtain rfl : L = [] := List.length_eq_zero_iff.1 h0
      refine (xstable0 a cap w).mono ?_
      rintro x w' ⟨rfl, rfl⟩
      exact ⟨rfl, rfl, fun hh => by simp [SS.rnk] at hh, Below.refl _ _⟩
    · obtain ⟨a2, c2, e0, hcap, hrd⟩ := own_read h h.1
      injection e0 with e1 e2 e3
      subst e1
      obtain ⟨g, rfl, hBg, hgl, hcell⟩ := hrd (by omega)
      have hH := holdsI hcell (fun i => own_froz h i)
      have hsz : (SS.tag L).toArray.size = L.length := by simp [SS.tag_len]
      have R : Ro w g 0 (SS.tag L).toArray := ⟨⟨ies_len, ies_one, hH, hgl⟩, by rw [hsz]; exact hl⟩
      refine (xstable R hsz (fun i j hij hj => ?_)).mono ?_
      · rw [SS.tag_at L i (by omega), SS.tag_at L j hj]
        exact hij
      · rintro x w' ⟨rfl, d', hv, hp, hso⟩
        have hd := SS.is_rnk swoI L d' hp hso
        have hds : d'.size = L.length := hp.1.trans hsz
        refine ⟨rfl, rfl, fun _ => ⟨g, 0, rfl, SWK.lt hv hgl, fun i hi j hj => ?_⟩, sv_below hv hB hBg⟩
        have hi2 : i < d'.size := by rw [hds, ← SS.rnk_len ltI L]; exact hi
        have h1 := (SWK.holds hv hgl hH (hds.trans hsz.symm)).cell hi2 hj
        rw [h1.1]
        have e1 : (SS.rnk ltI L)[i] = d'[i]!.1 := by
          have : (SS.rnk ltI L)[i]? = some d'[i]!.1 := by
            rw [← hd, List.getElem?_map, Array.getElem?_toList, Array.getElem?_eq_getElem hi2, getElem!_pos d' i hi2]
            rfl
          exact (List.getElem?_eq_some_iff.1 this).2
        rw [e1]
        have h3 : j < (its d'[i]!.1).length := by rw [its_len]; exact hj
        show some (its d'[i]!.1)[j]! = _
        rw [getElem!_pos _ j h3, List.getElem?_eq_getElem h3]
  clear h hB hl
  generalize L.length = n at *
  go_enter Try.func48, Try.ntmps48
  go_wp2_with (go_at_call 71; refine HC.out.mono ?_; clear HC; rintro x w1 ⟨rfl, HZ⟩)
  refine bodyPost_ret (results_none rfl _ _ _) rfl ?_
  exact HZ.out
end
end Go.Proofs.Ytheikjjehidagaa
