/- layer 11: the document: entries done; law Posts -/
import Derived.Test.YtbfnfebmmhhegaaAE
import Derived.WalkKit
import Derived.ProofKit
import Derived.Handy
import Derived.WalkLawsBesides
import Derived.WalkSpells
import Derived.BigQuiet
import Derived.BigCall
import Derived.Deep.QuietTactic
import Derived.Deep.Light
import Derived.Deep.OwnRows
import Derived.Laws.AppendOwnNone
import Derived.Laws.Strings3
import Derived.Laws.RangeAny
import Derived.Deep.RegionWith
import Derived.Lib.BitFns
import Derived.Lib.Walk
import Derived.Lib.Strings
import Derived.Lib.OthersKept
import Derived.Deep.CutBlock
import Derived.Deep.DeepCutAuto
import Derived.Deep.LoopGhost
import Derived.Deep.RegionHeld3
import Derived.Lib.SmallJoins
import Derived.Maps.AppendAt
import Derived.Laws.IdiomStrings
import Derived.Lib.AppendZeros
import Derived.Deep.WholeRow
import Derived.Laws.BitsAllLaws
import Derived.Lib.ConvBytes
import Derived.Deep.RegionLaw
import Derived.Maps.OwnSet
import Derived.Maps.OwnOps
import Derived.Maps.RangeWalk
import Derived.Maps.Ext
import Derived.DeepKeys4
import Derived.Laws.StructEq
import Derived.Shelf.SlSortCmp.NoneTotal
namespace Go.Proofs.Ytbfnfebmmhhegaa
open Go.RowKit
set_option linter.unusedVariables false
set_option linter.unusedSimpArgs false
set_option maxRecDepth 20000
def PosP (L : List Num.Bal) (es : List Num.Ent) (w : World) (x : Ending) (w' : World) : Prop := ∃ a' cap', x = .returned (.tuple #[.slice a' (Num.post L es).length cap', .int .i64 (Num.howf L es), .int .i64 (Num.whyf L es)]) ∧ (Num.post L es).length ≤ cap' ∧ Bs w' a' (Num.post L es) ∧ Below w.heap.size w w'
theorem run_bound (L : List Num.Bal) (xs : List Ex) (k : Nat) : (Num.run L ((xs.take k).map Ex.ent)).length ≤ L.length + 2 * xs.length := by
  have := Num.length_run L ((xs.take k).map Ex.ent)
  rw [List.length_map, List.length_take] at this
  omega
theorem split_ent (xs : List Ex) {k : Nat} (h : k < xs.length) : xs.map Ex.ent = (xs.take k).map Ex.ent ++ xs[k].ent :: (xs.drop (k + 1)).map Ex.ent := by
  rw [← List.map_cons, ← List.map_append, ← List.drop_eq_getElem_cons h, List.take_append_drop]
theorem snoc_ent (xs : List Ex) {k : Nat} (h : k < xs.length) : (xs.take (k + 1)).map Ex.ent = (xs.take k).map Ex.ent ++ [xs[k].ent] := by
  rw [← List.take_append_getElem h, List.map_append]; rfl
set_option maxHeartbeats 16000000 in
theorem rpost (L : List Num.Bal) (g : Num.Good L) (hl : L.length ≤ 50000) (xs : List Ex) (hx : xs.length ≤ 300) (a : Option Addr) (cap : Nat) (hcap : L.length ≤ cap) (ae : Option Addr) (ce : Nat) (w : World) (h : Bs w a L) (he : Es w.heap.size w.heap.size w (.slice ae xs.length ce) xs) : Calls Try.prog 59 #[.slice a L.length cap, .slice ae xs.length ce] w (PosP L (xs.map Ex.ent) w) := by
  have HBs : Hid (Bs w a L) := h
  have HE : Hid (Es w.heap.size w.heap.size w (.slice ae xs.length ce) xs) := he
  have HG : Hid (Num.Good L) := g
  have HL : Hid (L.length ≤ 50000 ∧ xs.length ≤ 300) := ⟨hl, hx⟩
  have hx' : ¬ (4096 : Int) < (xs.length : Int) := by omega
  have HNO : Hid (∀ (k : Nat) (F : Int) w', k < xs.length → Num.whyf L (xs.map Ex.ent) = F → F ≠ 0 → Num.howf L (xs.map Ex.ent) = k → Below w.heap.size w w' → PosP L (xs.map Ex.ent) w (.returned (.tuple #[.slice a L.length cap, .int .i64 k, .int .i64 F])) w') := fun k F w' _ hF hF0 hh hb => by
    have e : Num.post L (xs.map Ex.ent) = L := if_neg (by rw [hF]; exact hF0)
    refine ⟨a, cap, ?_, ?_, ?_, hb⟩
    · rw [e, hF, hh]
    · rw [e]; exact hcap
    · rw [e]; exact h.below hb
  have HYES : Hid (∀ w' a' c', Num.whyf L (xs.map Ex.ent) = 0 → (Num.run L (xs.map Ex.ent)).length ≤ c' → Bs w' a' (Num.run L (xs.map Ex.ent)) → Below w.heap.size w w' → PosP L (xs.map Ex.ent) w (.returned (.tuple #[.slice a' (Num.run L (xs.map Ex.ent)).length c', .int .i64 (xs.length : Nat), .int .i64 0])) w') := fun w' a' c' hF hc hB hb => by
    have e : Num.post L (xs.map Ex.ent) = Num.run L (xs.map Ex.ent) := if_pos hF
    refine ⟨a', c', ?_, ?_, ?_, hb⟩
    · rw [e, hF, Num.howf_all L _ hF, List.length_map]
    · rw [e]; exact hc
    · rw [e]; exact hB
  clear h he g hl hx
  go_enter Try.func59, Try.ntmps59
  go_wp2_with fail
  go_loopw [7, 8] (fun v i wr => ∃ (k : Nat) (ak : Option Addr) (ck : Nat) (M : List Num.Bal), k ≤ xs.length ∧ i = .int .i64 k ∧ v = .slice ak M.length ck ∧ Hid (M = Num.run L ((xs.take k).map Ex.ent) ∧ M.length ≤ ck ∧ Bs wr ak M ∧ Num.whyf L ((xs.take k).map Ex.ent) = 0 ∧ Below w.heap.size w wr))
    (fun _ i _ => xs.length - (intOf i).toNat)
  case atStart => exact ⟨0, a, cap, L, Nat.zero_le _, rfl, rfl, rfl, hcap, HBs.out, rfl, Below.refl _ _⟩
  case round =>
    obtain ⟨k, ak, ck, M, hk, rfl, rfl, HR⟩ := hrel
    by_cases hkn : k < xs.length
    · have hkz : (k : Int) < (xs.length : Int) := by omega
      obtain ⟨a', cap', e0, hE0⟩ := HE.out
      injection e0 with e01 e02 e03
      subst e01 e03
      obtain ⟨blk, off, rfl, hb1, hb2, hcs⟩ := hE0 (by omega)
      have hc7 := hcs k hkn
      have hgk : Num.Good M := by rw [HR.out.1]; exact HG.out.run _ HR.out.2.2.2.1
      have hlk : M.length ≤ 100000 := by rw [HR.out.1]; have := run_bound L xs k; have := HL.out; omega
      have hsp := split_ent xs hkn
      have hsn := snoc_ent xs hkn
      have HF0 : Hid (Num.flt M xs[k].ent ≠ 0 → ∀ w', Below w.heap.size w w' → PosP L (xs.map Ex.ent) w (.returned (.tuple #[.slice a L.length cap, .int .i64 k, .int .i64 (Num.flt M xs[k].ent)])) w') := fun hF w' hb => by
        have hno := Num.snoc_no (L := L) (es := (xs.take k).map Ex.ent) (fs := (xs.drop (k + 1)).map Ex.ent) (e := xs[k].ent) HR.out.2.2.2.1 (by rw [← HR.out.1]; exact hF)
        refine HNO.out k _ w' hkn ?_ hF ?_ hb
        · rw [hsp, hno.1, HR.out.1]
        · rw [hsp, hno.2, List.length_map, List.length_take]; omega
      have HF1 : Hid (Num.flt M xs[k].ent = 0 → nx M xs[k].ent = Num.run L ((xs.take (k + 1)).map Ex.ent) ∧ Num.whyf L ((xs.take (k + 1)).map Ex.ent) = 0) := fun hF => by
        have hok := Num.snoc_ok (L := L) (es := (xs.take k).map Ex.ent) (e := xs[k].ent) HR.out.2.2.2.1 (by rw [← HR.out.1]; exact hF)
        rw [hsn]
        refine ⟨?_, hok.1⟩
        rw [hok.2, ← HR.out.1]
        exact if_pos hF
      clear hsp hsn
      generalize xs[k] = x at *
      obtain ⟨o, b, s, o2, b2, s2, n7⟩ := x
      have hbw := HR.out.2.2.2.2
      have hcc (i : Nat) (h : i < 7) : wr.cell? ⟨blk, off + k * 7 + i, none⟩ = _ := (hbw.cell (p := ⟨blk, off + k * 7 + i, none⟩) hb1).trans (hc7 i h)
      have c0 : wr.cell? ⟨blk, off + k * 7, none⟩ = some (.int .i64 o) := hcc 0 (by omega)
      have c1 : wr.cell? ⟨blk, off + k * 7 + 1, none⟩ = some (.int .i64 b) := hcc 1 (by omega)
      have c2 : wr.cell? ⟨blk, off + k * 7 + 2, none⟩ = some (.string s) := hcc 2 (by omega)
      have c3 : wr.cell? ⟨blk, off + k * 7 + 3, none⟩ = some (.int .i64 o2) := hcc 3 (by omega)
      have c4 : wr.cell? ⟨blk, off + k * 7 + 4, none⟩ = some (.int .i64 b2) := hcc 4 (by omega)
      have c5 : wr.cell? ⟨blk, off + k * 7 + 5, none⟩ = some (.string s2) := hcc 5 (by omega)
      have c6 : wr.cell? ⟨blk, off + k * 7 + 6, none⟩ = some (.int .i64 n7) := hcc 6 (by omega)
      have HMv : Hid (Calls Try.prog 76 #[.slice ak M.length ck, .agg #[.int .i64 o, .int .i64 b, .string s, .int .i64 o2, .int .i64 b2, .string s2, .int .i64 n7]] wr fun x w' => ∃ a' cap', x = .returned (.tuple #[.slice a' (nx M (Ex.ent ⟨o, b, s, o2, b2, s2, n7⟩)).length cap', .int .i64 (Num.flt M (Ex.ent ⟨o, b, s, o2, b2, s2, n7⟩))]) ∧ Hid ((nx M (Ex.ent ⟨o, b, s, o2, b2, s2, n7⟩)).length ≤ cap' ∧ Bs w' a' (nx M (Ex.ent ⟨o, b, s, o2, b2, s2, n7⟩)) ∧ Below w.heap.size w w')) := (rmove M hgk hlk ak ck HR.out.2.1 o b o2 b2 n7 s s2 wr HR.out.2.2.1).mono fun e w' ⟨a', c', h1, h2, h3, h4⟩ => ⟨a', c', h1, h2, h3, hbw.trans (h4.mono hbw.size)⟩
      generalize nx M (Ex.ent ⟨o, b, s, o2, b2, s2, n7⟩) = M2 at *
      generalize Num.flt M (Ex.ent ⟨o, b, s, o2, b2, s2, n7⟩) = F at *
      clear hc7 hcs hE0 hb1 hb2 e02 hcc hgk hlk HR hbw HNO HYES
      by_cases hF : F = 0
      · subst hF
        obtain ⟨hM2, hw2⟩ := HF1.out rfl
        have HF2 : Hid (M2 = Num.run L ((xs.take (k + 1)).map Ex.ent) ∧ Num.whyf L ((xs.take (k + 1)).map Ex.ent) = 0) := ⟨hM2, hw2⟩
        clear HF0 HF1 hM2 hw2
        go_wp2_with (go_at_call 76; refine HMv.out.mono ?_; rintro e w3 ⟨a3, cap3, rfl, HZ⟩)
        go_roundw
        case rel => exact ⟨k + 1, a3, cap3, M2, by omega, by simp, rfl, HF2.out.1, HZ.out.1, HZ.out.2.1, HF2.out.2, HZ.out.2.2⟩
        case measure => simp [intOf]; omega
      · have hF' : (F != 0) = true := by simp [hF]
        have HF2 : Hid (∀ w', Below w.heap.size w w' → PosP L (xs.map Ex.ent) w (.returned (.tuple #[.slice a L.length cap, .int .i64 k, .int .i64 F])) w') := HF0.out hF
        clear HF0 HF1 hF
        go_wp2_with (go_at_call 76; refine HMv.out.mono ?_; rintro e w3 ⟨a3, cap3, rfl, HZ⟩)
        go_returns
        exact HF2.out _ HZ.out.2.2
    · have hkz : ¬ (k : Int) < (xs.length : Int) := by omega
      have HF : Hid (PosP L (xs.map Ex.ent) w (.returned (.tuple #[.slice ak M.length ck, .int .i64 (xs.length : Nat), .int .i64 0])) wr) := by
        obtain ⟨h1, h2, h3, h4, h5⟩ := HR.out
        rw [List.take_of_length_le (by omega)] at h1 h4
        rw [h1]
        rw [h1] at h2 h3
        exact HYES.out wr ak ck h4 h2 h3 h5
      clear HNO HYES
      go_wp2_with fail
      go_returns
      exact HF.out
end Go.Proofs.Ytbfnfebmmhhegaa
