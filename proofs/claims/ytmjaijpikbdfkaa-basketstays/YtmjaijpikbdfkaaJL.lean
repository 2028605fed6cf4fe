/- layer 14: no book -/
import Derived.Test.YtmjaijpikbdfkaaJD
import Derived.WalkKit
import Derived.ProofKit
import Derived.Handy
import Derived.WalkLawsBesides
import Derived.WalkSpells
import Derived.BigQuiet
import Derived.BigCall
import Derived.Deep.QuietTactic
import Derived.Deep.Light
import Derived.Deep.OwnRows
import Derived.Laws.AppendOwnNone
import Derived.Laws.Strings3
import Derived.Laws.RangeAny
import Derived.Deep.RegionWith
import Derived.Lib.BitFns
import Derived.Lib.Walk
import Derived.Lib.Strings
import Derived.Lib.OthersKept
import Derived.Deep.CutBlock
import Derived.Deep.DeepCutAuto
import Derived.Deep.LoopGhost
import Derived.Deep.RegionHeld3
import Derived.Lib.SmallJoins
import Derived.Maps.AppendAt
import Derived.Laws.IdiomStrings
import Derived.Lib.AppendZeros
import Derived.Deep.WholeRow
import Derived.Laws.BitsAllLaws
import Derived.Lib.ConvBytes
import Derived.Deep.RegionLaw
import Derived.Maps.OwnSet
import Derived.Maps.OwnOps
import Derived.Maps.RangeWalk
import Derived.Maps.Ext
import Derived.DeepKeys4
import Derived.Laws.StructEq
import Derived.Deep.MidRow
import Derived.Lib.Bytealg
import Derived.Lib.Overlaps
import Derived.Lib.AppendZerosOnto
import Derived.Laws.MakeOwn
import Derived.Deep.Upon
import Derived.Sort.OwnSortedInts
namespace Go.Proofs.Ytmjaijpikbdfkaa
open Go.RowKit
set_option linter.unusedVariables false
set_option linter.unusedSimpArgs false
set_option maxRecDepth 20000
/-- of v there is nothing -/
def Lk (w : World) (v : Value) : Prop := ∀ W, Below w.heap.size w W → Calls Try.prog 41 #[v] W (BP true W)
theorem Lk.nil0 (w : World) : Lk w (.pointer none) := fun W _ => xlack_nil W
theorem Lk.zero {w : World} {p : Nat} (h : Bx w p #[.map none] 57) : Lk w (.pointer (some ⟨p, 0, none⟩)) := fun W hW => xlack_zero (h.keep hW)
theorem Lk.below {w w' : World} {v : Value} (h : Lk w v) (hb : Below w.heap.size w w') : Lk w' v := fun W hW => h W (bt hb hW)
theorem nids {w : World} {v : Value} (h : Lk w v) : Calls Try.prog 30 #[v] w fun e w' => e = .returned (.slice none 0 0) ∧ w = w' := by
  have HC : Hid (Calls Try.prog 41 #[v] w (BP true w)) := h w (Below.refl _ _)
  clear h
  go_enter Try.func30, Try.ntmps30
  go_wp2_with (go_at_call 41; refine HC.out.mono ?_; clear HC; rintro e w2 ⟨rfl, rfl⟩)
  go_ret
  exact ⟨rfl, rfl⟩
theorem nclone {w : World} {v : Value} (h : Lk w v) : Calls Try.prog 28 #[v] w fun e w' => e = .returned (.pointer none) ∧ w = w' := by
  have HC : Hid (Calls Try.prog 41 #[v] w (BP true w)) := h w (Below.refl _ _)
  clear h
  go_enter Try.func28, Try.ntmps28
  go_wp2_with (go_at_call 41; refine HC.out.mono ?_; clear HC; rintro e w2 ⟨rfl, rfl⟩)
  go_ret
  exact ⟨rfl, rfl⟩
theorem ntakes {w : World} {v : Value} (h : Lk w v) (ai ac : ByteArray) (a1 a2 m day : Int) : Calls Try.prog 25 #[v, .agg #[.string ai, .int .i64 a1, .int .i64 a2, .int .i64 m, .string ac], .int .i64 day] w fun e w' => e = .returned (.slice none 0 0) ∧ Below w.heap.size w w' := by
  have HC : Hid (Calls Try.prog 41 #[v] (w.alloc (.cells #[.string ai, .int .i64 a1, .int .i64 a2, .int .i64 m, .string ac] 27)) (BP true (w.alloc (.cells #[.string ai, .int .i64 a1, .int .i64 a2, .int .i64 m, .string ac] 27)))) := h _ (below_a w _)
  have HB : Hid (Below w.heap.size w (w.alloc (.cells #[.string ai, .int .i64 a1, .int .i64 a2, .int .i64 m, .string ac] 27))) := below_a w _
  clear h
  go_enter Try.func25, Try.ntmps25
  go_upto_region 1 with fail
  generalize (w.alloc (.cells #[.string ai, .int .i64 a1, .int .i64 a2, .int .i64 m, .string ac] 27)) = w1 at *
  go_wp2_with (go_at_call 41; refine HC.out.mono ?_; clear HC; rintro e w2 ⟨rfl, rfl⟩)
  go_ret
  exact ⟨rfl, HB.out⟩
theorem nset {w : World} {v : Value} (h : Lk w v) (x : Bm) : Calls Try.prog 18 #[v, .agg (bcs x).toArray] w fun e w' => e = .returned (.int .i64 3) ∧ Below w.heap.size w w' := by
  show Calls Try.prog 18 #[v, .agg #[.int .i64 x.b.id, .int .i64 x.b.ver, .string ⟨x.b.cur.toArray⟩, .int .i64 x.b.rat, .int .i64 x.b.least, .int .i64 x.b.most, .slice x.ca x.b.cuts.length x.cc, .int .i64 x.b.iss, .int .i64 x.b.ass, .slice x.ba x.b.bar.length x.bc]] w fun e w' => e = .returned (.int .i64 3) ∧ Below w.heap.size w w'
  have HC : Hid (Calls Try.prog 41 #[v] (w.alloc (.cells #[.int .i64 x.b.id, .int .i64 x.b.ver, .string ⟨x.b.cur.toArray⟩, .int .i64 x.b.rat, .int .i64 x.b.least, .int .i64 x.b.most, .slice x.ca x.b.cuts.length x.cc, .int .i64 x.b.iss, .int .i64 x.b.ass, .slice x.ba x.b.bar.length x.bc] 25)) (BP true (w.alloc (.cells #[.int .i64 x.b.id, .int .i64 x.b.ver, .string ⟨x.b.cur.toArray⟩, .int .i64 x.b.rat, .int .i64 x.b.least, .int .i64 x.b.most, .slice x.ca x.b.cuts.length x.cc, .int .i64 x.b.iss, .int .i64 x.b.ass, .slice x.ba x.b.bar.length x.bc] 25)))) := h _ (below_a w _)
  have HB : Hid (Below w.heap.size w (w.alloc (.cells #[.int .i64 x.b.id, .int .i64 x.b.ver, .string ⟨x.b.cur.toArray⟩, .int .i64 x.b.rat, .int .i64 x.b.least, .int .i64 x.b.most, .slice x.ca x.b.cuts.length x.cc, .int .i64 x.b.iss, .int .i64 x.b.ass, .slice x.ba x.b.bar.length x.bc] 25))) := below_a w _
  clear h
  go_enter Try.func18, Try.ntmps18
  go_upto_region 1 with fail
  generalize (w.alloc (.cells #[.int .i64 x.b.id, .int .i64 x.b.ver, .string ⟨x.b.cur.toArray⟩, .int .i64 x.b.rat, .int .i64 x.b.least, .int .i64 x.b.most, .slice x.ca x.b.cuts.length x.cc, .int .i64 x.b.iss, .int .i64 x.b.ass, .slice x.ba x.b.bar.length x.bc] 25)) = w1 at *
  go_wp2_with (go_at_call 41; refine HC.out.mono ?_; clear HC; rintro e w2 ⟨rfl, rfl⟩)
  go_ret
  exact ⟨rfl, HB.out⟩
theorem nall {w : World} {v : Value} (h : Lk w v) : Calls Try.prog 27 #[v] w fun e w' => e = .returned (.slice none 0 0) ∧ w = w' := by
  have HI : Hid (Calls Try.prog 30 #[v] w fun e w' => e = .returned (.slice none 0 0) ∧ w = w') := nids h
  clear h
  go_enter Try.func27, Try.ntmps27
  go_wp2_with (go_at_call 30; refine HI.out.mono ?_; clear HI; rintro e w1 ⟨rfl, rfl⟩)
  go_loopw [3, 9] (fun u i wr => u = .slice none 0 0 ∧ i = .int .i64 0 ∧ w = wr) (fun _ _ _ => 0)
  case atStart => exact ⟨rfl, rfl, rfl⟩
  case round =>
    obtain ⟨rfl, rfl, rfl⟩ := hrel
    go_wp2_with fail
    go_ret
    exact ⟨rfl, rfl⟩
theorem nat22 {w : World} {v : Value} (h : Lk w v) (id ver : Int) : Calls Try.prog 22 #[v, .int .i64 id, .int .i64 ver] w fun e w' => e = .returned (.tuple #[.agg (bcs Zm).toArray, .bool false]) ∧ Hid (Below w.heap.size w w') := by
  have HOF : Hid (Calls Try.prog 43 #[v, .int .i64 id] (w.alloc (.cells #[.int .i64 0, .int .i64 0, .string ⟨#[]⟩, .int .i64 0, .int .i64 0, .int .i64 0, .slice none 0 0, .int .i64 0, .int .i64 0, .slice none 0 0] 25)) fun e w' => e = .returned (.slice none 0 0) ∧ (w.alloc (.cells #[.int .i64 0, .int .i64 0, .string ⟨#[]⟩, .int .i64 0, .int .i64 0, .int .i64 0, .slice none 0 0, .int .i64 0, .int .i64 0, .slice none 0 0] 25)) = w') := xof_no (h _ (below_a w _)) id
  have HX0 : Hid (Bx (w.alloc (.cells #[.int .i64 0, .int .i64 0, .string ⟨#[]⟩, .int .i64 0, .int .i64 0, .int .i64 0, .slice none 0 0, .int .i64 0, .int .i64 0, .slice none 0 0] 25)) w.heap.size #[.int .i64 0, .int .i64 0, .string ⟨#[]⟩, .int .i64 0, .int .i64 0, .int .i64 0, .slice none 0 0, .int .i64 0, .int .i64 0, .slice none 0 0] 25) := Bx.new w _ _
  have HB0 : Hid (Below w.heap.size w (w.alloc (.cells #[.int .i64 0, .int .i64 0, .string ⟨#[]⟩, .int .i64 0, .int .i64 0, .int .i64 0, .slice none 0 0, .int .i64 0, .int .i64 0, .slice none 0 0] 25))) := below_a w _
  clear h
  go_enter Try.func22, Try.ntmps22
  go_upto_region 1 with fail
  generalize (w.alloc (.cells #[.int .i64 0, .int .i64 0, .string ⟨#[]⟩, .int .i64 0, .int .i64 0, .int .i64 0, .slice none 0 0, .int .i64 0, .int .i64 0, .slice none 0 0] 25)) = w1 at *
  go_upto_region 2 with (go_at_call 43; refine HOF.out.mono ?_; clear HOF; rintro e w2 ⟨rfl, rfl⟩)
  have HSTZ : Hid ((Instr.storeAt 25 (.pointer (some ⟨w.heap.size, 0, none⟩)) (.agg #[.int .i64 0, .int .i64 0, .string ⟨#[]⟩, .int .i64 0, .int .i64 0, .int .i64 0, .slice none 0 0, .int .i64 0, .int .i64 0, .slice none 0 0])).run Try.prog w1 = .ok () (w1.setRow w.heap.size #[.int .i64 0, .int .i64 0, .string ⟨#[]⟩, .int .i64 0, .int .i64 0, .int .i64 0, .slice none 0 0, .int .i64 0, .int .i64 0, .slice none 0 0])) := box_store HX0.out rfl Zm
  have HFZ : Hid (Bx (w1.setRow w.heap.size #[.int .i64 0, .int .i64 0, .string ⟨#[]⟩, .int .i64 0, .int .i64 0, .int .i64 0, .slice none 0 0, .int .i64 0, .int .i64 0, .slice none 0 0]) w.heap.size #[.int .i64 0, .int .i64 0, .string ⟨#[]⟩, .int .i64 0, .int .i64 0, .int .i64 0, .slice none 0 0, .int .i64 0, .int .i64 0, .slice none 0 0] 25 ∧ Below w.heap.size w (w1.setRow w.heap.size #[.int .i64 0, .int .i64 0, .string ⟨#[]⟩, .int .i64 0, .int .i64 0, .int .i64 0, .slice none 0 0, .int .i64 0, .int .i64 0, .slice none 0 0])) := ⟨HX0.out.setR, below_setR HB0.out (Nat.le_refl _)⟩
  by_cases h1 : ver < 1
  · go_wp2_with (guard_target =~ wpList _ _ _ (⟨_, Op.store 25 _ _, _, _, _, _⟩ :: _) _ _; refine wl_store _ _ rfl 25 _ _ rfl _ _ rfl rfl HSTZ.out ?_; go_simp)
    refine bodyPost_ret (res_cell2 _ _ 6 25 7 _ _ _ _ rfl rfl rfl (box_load (y := Zm) HFZ.out.1)) rfl ?_
    exact ⟨rfl, HFZ.out.2⟩
  · have h2 : (0 : Int) < ver := by omega
    go_wp2_with (guard_target =~ wpList _ _ _ (⟨_, Op.store 25 _ _, _, _, _, _⟩ :: _) _ _; refine wl_store _ _ rfl 25 _ _ rfl _ _ rfl rfl HSTZ.out ?_; go_simp)
    refine bodyPost_ret (res_cell2 _ _ 6 25 7 _ _ _ _ rfl rfl rfl (box_load (y := Zm) HFZ.out.1)) rfl ?_
    exact ⟨rfl, HFZ.out.2⟩
theorem nget {w : World} {v : Value} (h : Lk w v) (id : Int) : Calls Try.prog 20 #[v, .int .i64 id] w fun e w' => e = .returned (.tuple #[.agg (bcs Zm).toArray, .bool false]) ∧ Hid (Below w.heap.size w w') := by
  have HOF : Hid (Calls Try.prog 43 #[v, .int .i64 id] (w.alloc (.cells #[.int .i64 0, .int .i64 0, .string ⟨#[]⟩, .int .i64 0, .int .i64 0, .int .i64 0, .slice none 0 0, .int .i64 0, .int .i64 0, .slice none 0 0] 25)) fun e w' => e = .returned (.slice none 0 0) ∧ (w.alloc (.cells #[.int .i64 0, .int .i64 0, .string ⟨#[]⟩, .int .i64 0, .int .i64 0, .int .i64 0, .slice none 0 0, .int .i64 0, .int .i64 0, .slice none 0 0] 25)) = w') := xof_no (h _ (below_a w _)) id
  have HAT : Hid (Calls Try.prog 22 #[v, .int .i64 id, .int .i64 0] (w.alloc (.cells #[.int .i64 0, .int .i64 0, .string ⟨#[]⟩, .int .i64 0, .int .i64 0, .int .i64 0, .slice none 0 0, .int .i64 0, .int .i64 0, .slice none 0 0] 25)) fun e w' => e = .returned (.tuple #[.agg (bcs Zm).toArray, .bool false]) ∧ Hid (Below (w.alloc (.cells #[.int .i64 0, .int .i64 0, .string ⟨#[]⟩, .int .i64 0, .int .i64 0, .int .i64 0, .slice none 0 0, .int .i64 0, .int .i64 0, .slice none 0 0] 25)).heap.size (w.alloc (.cells #[.int .i64 0, .int .i64 0, .string ⟨#[]⟩, .int .i64 0, .int .i64 0, .int .i64 0, .slice none 0 0, .int .i64 0, .int .i64 0, .slice none 0 0] 25)) w')) := nat22 (h.below (below_a w _)) id 0
  have HX0 : Hid (Bx (w.alloc (.cells #[.int .i64 0, .int .i64 0, .string ⟨#[]⟩, .int .i64 0, .int .i64 0, .int .i64 0, .slice none 0 0, .int .i64 0, .int .i64 0, .slice none 0 0] 25)) w.heap.size #[.int .i64 0, .int .i64 0, .string ⟨#[]⟩, .int .i64 0, .int .i64 0, .int .i64 0, .slice none 0 0, .int .i64 0, .int .i64 0, .slice none 0 0] 25) := Bx.new w _ _
  have HB0 : Hid (Below w.heap.size w (w.alloc (.cells #[.int .i64 0, .int .i64 0, .string ⟨#[]⟩, .int .i64 0, .int .i64 0, .int .i64 0, .slice none 0 0, .int .i64 0, .int .i64 0, .slice none 0 0] 25))) := below_a w _
  clear h
  go_enter Try.func20, Try.ntmps20
  go_upto_region 1 with fail
  generalize (w.alloc (.cells #[.int .i64 0, .int .i64 0, .string ⟨#[]⟩, .int .i64 0, .int .i64 0, .int .i64 0, .slice none 0 0, .int .i64 0, .int .i64 0, .slice none 0 0] 25)) = w1 at *
  go_wp2_with (first | (go_at_call 43; refine HOF.out.mono ?_; clear HOF; rintro e w2 ⟨rfl, rfl⟩) | (go_at_call 22; refine HAT.out.mono ?_; clear HAT; rintro e w3 ⟨rfl, hy⟩; have HX3 : Hid (Bx w3 w.heap.size #[.int .i64 0, .int .i64 0, .string ⟨#[]⟩, .int .i64 0, .int .i64 0, .int .i64 0, .slice none 0 0, .int .i64 0, .int .i64 0, .slice none 0 0] 25) := HX0.out.keep hy.out; have HB3 : Hid (Below w.heap.size w w3) := HB0.out.trans (hy.out.mono HB0.out.size); have HST : Hid ((Instr.storeAt 25 (.pointer (some ⟨w.heap.size, 0, none⟩)) (.agg (bcs Zm).toArray)).run Try.prog w3 = .ok () (w3.setRow w.heap.size (bcs Zm).toArray)) := box_store HX3.out rfl Zm) | (guard_target =~ wpList _ _ _ (⟨_, Op.store 25 _ _, _, _, _, _⟩ :: _) _ _; refine wl_store _ _ rfl 25 _ _ rfl _ _ rfl rfl HST.out ?_; go_simp))
  refine bodyPost_ret (res_cell2 _ _ 4 25 5 _ _ _ _ rfl rfl rfl (box_load (HX3.out.setR (ds := (bcs Zm).toArray)))) rfl ?_
  exact ⟨rfl, below_setR HB3.out (Nat.le_refl _)⟩
theorem jbs22 (w : World) : (Instr.buildSlice 22 0 #[]).run Try.prog w = .ok (.slice (some ⟨w.heap.size, 0, none⟩) 0 0) (w.alloc (.cells #[] 53)) := by go_simp
theorem jbs23 (w : World) : (Instr.buildSlice 23 0 #[]).run Try.prog w = .ok (.slice (some ⟨w.heap.size, 0, none⟩) 0 0) (w.alloc (.cells #[] 3)) := by go_simp
end Go.Proofs.Ytmjaijpikbdfkaa
