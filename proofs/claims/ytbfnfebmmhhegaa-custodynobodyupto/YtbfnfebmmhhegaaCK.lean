/- layer 12: the document's Bring -/
import Derived.Test.YtbfnfebmmhhegaaCH
import Derived.Test.YtbfnfebmmhhegaaAF
import Derived.WalkKit
import Derived.ProofKit
import Derived.Handy
import Derived.WalkLawsBesides
import Derived.WalkSpells
import Derived.BigQuiet
import Derived.BigCall
import Derived.Deep.QuietTactic
import Derived.Deep.Light
import Derived.Deep.OwnRows
import Derived.Laws.AppendOwnNone
import Derived.Laws.Strings3
import Derived.Laws.RangeAny
import Derived.Deep.RegionWith
import Derived.Lib.BitFns
import Derived.Lib.Walk
import Derived.Lib.Strings
import Derived.Lib.OthersKept
import Derived.Deep.CutBlock
import Derived.Deep.DeepCutAuto
import Derived.Deep.LoopGhost
import Derived.Deep.RegionHeld3
import Derived.Lib.SmallJoins
import Derived.Maps.AppendAt
import Derived.Laws.IdiomStrings
import Derived.Lib.AppendZeros
import Derived.Deep.WholeRow
import Derived.Laws.BitsAllLaws
import Derived.Lib.ConvBytes
import Derived.Deep.RegionLaw
import Derived.Maps.OwnSet
import Derived.Maps.OwnOps
import Derived.Maps.RangeWalk
import Derived.Maps.Ext
import Derived.DeepKeys4
import Derived.Laws.StructEq
import Derived.Shelf.SlSortCmp.NoneTotal
import Derived.Deep.MidRow
import Derived.Laws.MakeOwn
namespace Go.Proofs.Ytbfnfebmmhhegaa
open Go.RowKit
set_option linter.unusedVariables false
set_option linter.unusedSimpArgs false
set_option maxRecDepth 20000
def RbP (L : List Num.Bal) (s : Int) (w : World) (x : Ending) (w' : World) : Prop := ∃ a' cap', x = .returned (.tuple #[.slice a' L.length cap', .int .i64 s]) ∧ L.length ≤ cap' ∧ Bs w' a' L ∧ Below w.heap.size w w'
theorem br_low {L : List Num.Bal} {mem : Int} {s : List UInt8} {qty : Int} (h : qty < -1125899906842624) (hr : Rng qty) : Num.whyf L [brEnt mem s qty] = 1 ∧ Num.post L [brEnt mem s qty] = L := by
  have hw : wrap64 (-qty) < 1 ∨ 1125899906842624 < wrap64 (-qty) := by unfold Rng at hr; unfold wrap64; omega
  have hf : Num.flt L (brEnt mem s qty) = 1 := by
    unfold brEnt
    rw [if_pos (by omega)]
    unfold Num.flt
    exact if_pos hw
  have h1 : Num.whyf L [brEnt mem s qty] = 1 := by
    simp only [Num.whyf]
    rw [if_neg (by rw [hf]; decide), hf]
  exact ⟨h1, by unfold Num.post; rw [if_neg (by rw [h1]; decide)]⟩
theorem br_neg {qty : Int} (h : qty < 0) (h2 : ¬ qty < -1125899906842624) : wrap64 (0 - qty) = wrap64 (-qty) := by rw [Int.zero_sub]
/-- one entry, posted, in the document -/
theorem rpost_one (L : List Num.Bal) (g : Num.Good L) (hl : L.length ≤ 50000) (x : Ex) (a : Option Addr) (cap : Nat) (hcap : L.length ≤ cap) (w0 W : World) (h : Bs w0 a L) (hb : Below w0.heap.size w0 W) :
    Calls Try.prog 59 #[.slice a L.length cap, .slice (some ⟨W.heap.size, 0, none⟩) 1 1] (W.alloc (.cells x.cs 112)) fun e w' => ∃ (v : Value) (n : Int), e = .returned (.tuple #[v, .int .i64 n, .int .i64 (Num.whyf L [x.ent])]) ∧ Hid (RbP (Num.post L [x.ent]) (Num.whyf L [x.ent]) w0 (.returned (.tuple #[v, .int .i64 (Num.whyf L [x.ent])])) w') := by
  have hX := Bx.new W x.cs 112
  have hB := hb.alloc hb.size (.cells x.cs 112)
  have hes : Es (W.alloc (.cells x.cs 112)).heap.size (W.alloc (.cells x.cs 112)).heap.size (W.alloc (.cells x.cs 112)) (.slice (some ⟨W.heap.size, 0, none⟩) 1 1) [x] :=
    ⟨_, _, rfl, fun _ => ⟨W.heap.size, 0, rfl, by simp, by simp, fun i hi k hk => by
      obtain rfl : i = 0 := by simpa using hi
      rw [Nat.zero_mul, Nat.add_zero, Nat.zero_add]
      exact hX.cell k⟩⟩
  refine (rpost L g hl [x] (by simp) a cap hcap _ 1 _ (h.below hB) hes).mono ?_
  rintro e w' ⟨a2, c2, rfl, h2, h3, h4⟩
  exact ⟨_, _, rfl, a2, c2, rfl, h2, h3, hB.trans (h4.mono hB.size)⟩
set_option maxHeartbeats 8000000 in
theorem rbring (L : List Num.Bal) (g : Num.Good L) (hl : L.length ≤ 50000) (a : Option Addr) (cap : Nat) (hcap : L.length ≤ cap) (mem : Int) (s : ByteArray) (qty : Int) (hr : Rng qty) (w : World) (h : Bs w a L) :
    Calls Try.prog 36 #[.slice a L.length cap, .int .i64 mem, .string s, .int .i64 qty] w (RbP (brL L mem s.toList qty) (brE L mem s.toList qty) w) := by
  have HM : Hid (Calls Try.prog 44 #[.int .i64 mem, .int .i64 1] w fun e w' => e = .returned (.bool (wrm mem 1)) ∧ w = w') := rwrm mem 1 w
  by_cases hw : wrm mem 1 = true
  · have HF : Hid (RbP (brL L mem s.toList qty) (brE L mem s.toList qty) w (.returned (.tuple #[.slice a L.length cap, .int .i64 22])) w) := by
      unfold brL brE
      rw [if_pos hw, if_pos hw]
      exact ⟨a, cap, rfl, hcap, h, Below.refl _ _⟩
    rw [hw] at HM
    clear h hw
    go_enter Try.func36, Try.ntmps36
    go_wp2_with (go_at_call 44; refine HM.out.mono ?_; rintro e w1 ⟨rfl, rfl⟩)
    go_returns
    exact HF.out
  have hw' : wrm mem 1 = false := by simpa using hw
  rw [hw'] at HM
  by_cases h1 : qty < -1125899906842624
  · have HF : Hid (RbP (brL L mem s.toList qty) (brE L mem s.toList qty) w (.returned (.tuple #[.slice a L.length cap, .int .i64 1])) w) := by
      unfold brL brE
      rw [if_neg hw, if_neg hw, (br_low h1 hr).1, (br_low h1 hr).2]
      exact ⟨a, cap, rfl, hcap, h, Below.refl _ _⟩
    clear h hw hw'
    go_enter Try.func36, Try.ntmps36
    go_wp2_with (go_at_call 44; refine HM.out.mono ?_; rintro e w1 ⟨rfl, rfl⟩)
    go_returns
    exact HF.out
  by_cases hq : qty < 0
  · have hbe : Ex.ent ⟨mem, 1, s, 0, 0, s, -qty⟩ = brEnt mem s.toList qty := by
      unfold brEnt
      rw [if_pos hq, wrap_in (by unfold Rng at hr; omega)]
      rfl
    have HP : Hid (∀ W, Below w.heap.size w W → Calls Try.prog 59 #[.slice a L.length cap, .slice (some ⟨W.heap.size, 0, none⟩) 1 1] (W.alloc (.cells #[.int .i64 mem, .int .i64 1, .string s, .int .i64 0, .int .i64 0, .string s, .int .i64 (-qty)] 112)) fun e w' => ∃ (v : Value) (n : Int) (x : Int), e = .returned (.tuple #[v, .int .i64 n, .int .i64 x]) ∧ Hid (RbP (brL L mem s.toList qty) (brE L mem s.toList qty) w (.returned (.tuple #[v, .int .i64 x])) w')) := fun W hb => by
      refine (rpost_one L g hl ⟨mem, 1, s, 0, 0, s, -qty⟩ a cap hcap w W h hb).mono ?_
      rintro e w' ⟨v, n, rfl, hz⟩
      refine ⟨v, n, _, rfl, ?_⟩
      unfold brL brE
      rw [if_neg hw, if_neg hw, ← hbe]
      exact hz
    obtain ⟨w1, hw1⟩ : ∃ w1, w1 = (w.alloc (.cells #[.int .i64 mem, .int .i64 1, .string s] 40)).alloc (.cells #[.int .i64 0, .int .i64 0, .string s] 40) := ⟨_, rfl⟩
    have HW : Hid ((w.alloc (.cells #[.int .i64 mem, .int .i64 1, .string s] 40)).alloc (.cells #[.int .i64 0, .int .i64 0, .string s] 40) = w1) := hw1.symm
    have hX1 : Bx w1 w.heap.size #[.int .i64 mem, .int .i64 1, .string s] 40 := by rw [hw1]; exact (Bx.new w _ _).kept (grown_alloc _ _ none) (by simp)
    have hX2 : Bx w1 (w.heap.size + 1) #[.int .i64 0, .int .i64 0, .string s] 40 := by
      rw [hw1]
      have := Bx.new (w.alloc (.cells #[.int .i64 mem, .int .i64 1, .string s] 40)) #[.int .i64 0, .int .i64 0, .string s] 40
      rw [World.size_alloc] at this
      exact this
    have HP1 := HP.out w1 (by rw [hw1]; exact ((Below.refl _ w).alloc (Nat.le_refl _) _).alloc (by simp) _)
    have k0 : w1.cell? ⟨w.heap.size, 0, none⟩ = _ := hX1.cell 0
    have k1 : w1.cell? ⟨w.heap.size, 1, none⟩ = _ := hX1.cell 1
    have k2 : w1.cell? ⟨w.heap.size, 2, none⟩ = _ := hX1.cell 2
    have k3 : w1.cell? ⟨w.heap.size + 1, 0, none⟩ = _ := hX2.cell 0
    have k4 : w1.cell? ⟨w.heap.size + 1, 1, none⟩ = _ := hX2.cell 1
    have k5 : w1.cell? ⟨w.heap.size + 1, 2, none⟩ = _ := hX2.cell 2
    simp only [Array.getElem?_eq_getElem, List.size_toArray, List.length_cons, List.length_nil, List.getElem_toArray, List.getElem_cons_zero, List.getElem_cons_succ, Nat.reduceAdd, Nat.reduceLT] at k0 k1 k2 k3 k4 k5
    have hW0 : wrap64 (-qty) = -qty := wrap_in (by unfold Rng at hr; omega)
    clear h hw hw' hbe HP hX1 hX2 hw1
    have HP2 : Hid (Calls Try.prog 59 #[.slice a L.length cap, .slice (some ⟨w1.heap.size, 0, none⟩) 1 1] (w1.alloc (.cells #[.int .i64 mem, .int .i64 1, .string s, .int .i64 0, .int .i64 0, .string s, .int .i64 (-qty)] 112)) fun e w' => ∃ (v : Value) (n : Int) (x : Int), e = .returned (.tuple #[v, .int .i64 n, .int .i64 x]) ∧ Hid (RbP (brL L mem s.toList qty) (brE L mem s.toList qty) w (.returned (.tuple #[v, .int .i64 x])) w')) := HP1
    clear HP1
    go_enter Try.func36, Try.ntmps36
    go_upto_region 8 with (go_at_call 44; refine HM.out.mono ?_; rintro e w1 ⟨rfl, rfl⟩; clear HM)
    try rw [hW0]
    rw [HW.out]
    clear HW
    go_wp2_with (go_at_call 59; refine HP2.out.mono ?_; rintro e w5 ⟨v5, n5, x5, rfl, HZ⟩)
    go_returns
    exact HZ.out
  · have hbe : Ex.ent ⟨0, 0, s, mem, 1, s, qty⟩ = brEnt mem s.toList qty := by
      unfold brEnt
      rw [if_neg hq]
      rfl
    have HP : Hid (∀ W, Below w.heap.size w W → Calls Try.prog 59 #[.slice a L.length cap, .slice (some ⟨W.heap.size, 0, none⟩) 1 1] (W.alloc (.cells #[.int .i64 0, .int .i64 0, .string s, .int .i64 mem, .int .i64 1, .string s, .int .i64 qty] 112)) fun e w' => ∃ (v : Value) (n : Int) (x : Int), e = .returned (.tuple #[v, .int .i64 n, .int .i64 x]) ∧ Hid (RbP (brL L mem s.toList qty) (brE L mem s.toList qty) w (.returned (.tuple #[v, .int .i64 x])) w')) := fun W hb => by
      refine (rpost_one L g hl ⟨0, 0, s, mem, 1, s, qty⟩ a cap hcap w W h hb).mono ?_
      rintro e w' ⟨v, n, rfl, hz⟩
      refine ⟨v, n, _, rfl, ?_⟩
      unfold brL brE
      rw [if_neg hw, if_neg hw, ← hbe]
      exact hz
    obtain ⟨w1, hw1⟩ : ∃ w1, w1 = (w.alloc (.cells #[.int .i64 0, .int .i64 0, .string s] 40)).alloc (.cells #[.int .i64 mem, .int .i64 1, .string s] 40) := ⟨_, rfl⟩
    have HW : Hid ((w.alloc (.cells #[.int .i64 0, .int .i64 0, .string s] 40)).alloc (.cells #[.int .i64 mem, .int .i64 1, .string s] 40) = w1) := hw1.symm
    have hX1 : Bx w1 w.heap.size #[.int .i64 0, .int .i64 0, .string s] 40 := by rw [hw1]; exact (Bx.new w _ _).kept (grown_alloc _ _ none) (by simp)
    have hX2 : Bx w1 (w.heap.size + 1) #[.int .i64 mem, .int .i64 1, .string s] 40 := by
      rw [hw1]
      have := Bx.new (w.alloc (.cells #[.int .i64 0, .int .i64 0, .string s] 40)) #[.int .i64 mem, .int .i64 1, .string s] 40
      rw [World.size_alloc] at this
      exact this
    have HP1 := HP.out w1 (by rw [hw1]; exact ((Below.refl _ w).alloc (Nat.le_refl _) _).alloc (by simp) _)
    have k0 : w1.cell? ⟨w.heap.size, 0, none⟩ = _ := hX1.cell 0
    have k1 : w1.cell? ⟨w.heap.size, 1, none⟩ = _ := hX1.cell 1
    have k2 : w1.cell? ⟨w.heap.size, 2, none⟩ = _ := hX1.cell 2
    have k3 : w1.cell? ⟨w.heap.size + 1, 0, none⟩ = _ := hX2.cell 0
    have k4 : w1.cell? ⟨w.heap.size + 1, 1, none⟩ = _ := hX2.cell 1
    have k5 : w1.cell? ⟨w.heap.size + 1, 2, none⟩ = _ := hX2.cell 2
    simp only [Array.getElem?_eq_getElem, List.size_toArray, List.length_cons, List.length_nil, List.getElem_toArray, List.getElem_cons_zero, List.getElem_cons_succ, Nat.reduceAdd, Nat.reduceLT] at k0 k1 k2 k3 k4 k5
    clear h hw hw' hbe HP hX1 hX2 hw1
    have HP2 : Hid (Calls Try.prog 59 #[.slice a L.length cap, .slice (some ⟨w1.heap.size, 0, none⟩) 1 1] (w1.alloc (.cells #[.int .i64 0, .int .i64 0, .string s, .int .i64 mem, .int .i64 1, .string s, .int .i64 qty] 112)) fun e w' => ∃ (v : Value) (n : Int) (x : Int), e = .returned (.tuple #[v, .int .i64 n, .int .i64 x]) ∧ Hid (RbP (brL L mem s.toList qty) (brE L mem s.toList qty) w (.returned (.tuple #[v, .int .i64 x])) w')) := HP1
    clear HP1
    go_enter Try.func36, Try.ntmps36
    go_upto_region 8 with (go_at_call 44; refine HM.out.mono ?_; rintro e w1 ⟨rfl, rfl⟩; clear HM)
    skip
    rw [HW.out]
    clear HW
    go_wp2_with (go_at_call 59; refine HP2.out.mono ?_; rintro e w5 ⟨v5, n5, x5, rfl, HZ⟩)
    go_returns
    exact HZ.out
end Go.Proofs.Ytbfnfebmmhhegaa
