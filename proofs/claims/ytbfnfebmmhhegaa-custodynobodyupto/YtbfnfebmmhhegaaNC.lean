/- layer 12: law Nobody -/
import Derived.Test.YtbfnfebmmhhegaaNB
import Derived.WalkKit
import Derived.ProofKit
import Derived.Handy
import Derived.WalkLawsBesides
import Derived.WalkSpells
import Derived.BigQuiet
import Derived.BigCall
import Derived.Deep.QuietTactic
import Derived.Deep.Light
import Derived.Deep.OwnRows
import Derived.Laws.AppendOwnNone
import Derived.Laws.Strings3
import Derived.Laws.RangeAny
import Derived.Deep.RegionWith
import Derived.Lib.BitFns
import Derived.Lib.Walk
import Derived.Lib.Strings
import Derived.Lib.OthersKept
import Derived.Deep.CutBlock
import Derived.Deep.DeepCutAuto
import Derived.Deep.LoopGhost
import Derived.Deep.RegionHeld3
import Derived.Lib.SmallJoins
import Derived.Maps.AppendAt
import Derived.Laws.IdiomStrings
import Derived.Lib.AppendZeros
import Derived.Deep.WholeRow
import Derived.Laws.BitsAllLaws
import Derived.Lib.ConvBytes
import Derived.Deep.RegionLaw
import Derived.Maps.OwnSet
import Derived.Maps.OwnOps
import Derived.Maps.RangeWalk
import Derived.Maps.Ext
import Derived.DeepKeys4
import Derived.Laws.StructEq
import Derived.Shelf.SlSortCmp.NoneTotal
import Derived.Deep.MidRow
import Derived.Laws.MakeOwn
import Derived.Sort.OwnSorted
import Derived.Lib.SlicesCompact
import Derived.Lib.RowBridge
namespace Go.Proofs.Ytbfnfebmmhhegaa
open Go.RowKit
set_option linter.unusedVariables false
set_option linter.unusedSimpArgs false
set_option maxRecDepth 20000
structure NobC (W0 : World) (p : Value) (mem bk c n : Int) (s : ByteArray) (lv tv : Value) : Prop where
  lines : ∀ W, Below W0.heap.size W0 W → Calls Try.prog 28 #[lv] W fun e w' => ∃ v, e = .returned v ∧ Below W0.heap.size W0 w'
  mv : ∀ W v, Below W0.heap.size W0 W → Calls Try.prog 27 #[p, v] W fun e w' => e = .returned (.tuple #[.int .i64 0, .int .i64 3]) ∧ W = w'
  sh : ∀ W, Below W0.heap.size W0 W → Calls Try.prog 29 #[p, .int .i64 mem, .int .i64 bk, .int .i64 c, tv] W fun e w' => e = .returned (.tuple #[.int .i64 0, .int .i64 3]) ∧ Below W0.heap.size W0 w'
  br : ∀ W, Below W0.heap.size W0 W → Calls Try.prog 26 #[p, .int .i64 mem, .string s, .int .i64 n] W fun e w' => e = .returned (.int .i64 3) ∧ W = w'
  pos : ∀ W, Below W0.heap.size W0 W → Calls Try.prog 16 #[p, .int .i64 mem, .string s] W fun e w' => e = .returned (.agg #[.int .i64 0, .int .i64 0, .int .i64 0, .int .i64 0]) ∧ Below W0.heap.size W0 w'
  pal : ∀ W, Below W0.heap.size W0 W → Calls Try.prog 17 #[.agg #[.int .i64 0, .int .i64 0, .int .i64 0, .int .i64 0]] W fun e w' => e = .returned (.int .i64 0) ∧ Below W0.heap.size W0 w'
  th : ∀ W, Below W0.heap.size W0 W → Calls Try.prog 22 #[p] W fun e w' => e = .returned (.slice none 0 0) ∧ W = w'
  out : ∀ W, Below W0.heap.size W0 W → Calls Try.prog 24 #[p, .string s] W fun e w' => e = .returned (.int .i64 0) ∧ W = w'
  lots : ∀ W, Below W0.heap.size W0 W → Calls Try.prog 19 #[p, .int .i64 mem, .int .i64 bk] W fun e w' => e = .returned (.slice none 0 0) ∧ W = w'
  all : ∀ W, Below W0.heap.size W0 W → Calls Try.prog 34 #[p] W fun e w' => e = .returned (.slice none 0 0) ∧ W = w'
  cl : ∀ W, Below W0.heap.size W0 W → Calls Try.prog 33 #[p] W fun e w' => e = .returned (.pointer none) ∧ W = w'
theorem NobC.mk' {W0 : World} {o : Option Addr} {mem bk c n : Int} {s : ByteArray} {la ta : Option Addr} {lc tc : Nat} {l : List Ln} {t : List Lot} (hk : ∀ W, Below W0.heap.size W0 W → KpC (.pointer o) W) (hl : Ls W0 la l) (ht : Lts W0 ta t) (hn : l.length * 56 ≤ 140737488355328) (hm : t.length ≤ 1000000) :
    NobC W0 (.pointer o) mem bk c n s (.slice la l.length lc) (.slice ta t.length tc) where
  lines W h := (xlinesL l la lc W (hl.below h) hn).mono fun e w' k => by
    obtain ⟨v, rfl, _, hb⟩ := k
    exact ⟨v, rfl, h.trans (hb.mono h.size)⟩
  mv W v h := nMove _ v W (hk W h)
  sh W h := (nShift _ mem bk c t hm ta tc W (fun V hV => hk V (h.trans (hV.mono h.size))) (ht.below h)).mono fun _ _ k => ⟨k.1, h.trans (k.2.mono h.size)⟩
  br W h := nBring _ mem s n W (hk W h)
  pos W h := (nPos o mem s W (fun V hV => hk V (h.trans (hV.mono h.size)))).mono fun _ _ k => ⟨k.1, h.trans (k.2.mono h.size)⟩
  pal W h := (xpall 0 0 0 0 W).mono fun _ _ k => ⟨by rw [k.1, show wrap64 (wrap64 (wrap64 (0 + 0) + 0) + 0) = 0 from by decide +kernel], h.trans (k.2.mono h.size)⟩
  th W h := nCThings _ W (hk W h)
  out W h := nCOut _ s W (hk W h)
  lots W h := nCLots _ mem bk W (hk W h)
  all W h := nCAll _ W (hk W h)
  cl W h := nCClone _ W (hk W h)
set_option maxHeartbeats 8000000 in
theorem lcnobody (k9 a b c9 : Int) (s9 : ByteArray) (n9 : Int) (l : List Ln) (la : Option Addr) (lc : Nat) (t : List Lot) (ta : Option Addr) (tc : Nat) (w : World) (hl : Ls w la l) (ht : Lts w ta t) (hn : l.length * 56 ≤ 140737488355328) (hm : t.length ≤ 1000000) :
    Calls Try.prog 8 #[.agg #[.int .i64 k9, .int .i64 a, .int .i64 b, .int .i64 c9, .string s9, .int .i64 n9, .slice la l.length lc, .slice ta t.length tc]] w fun e w' => e = .returned (.bool true) ∧ Below w.heap.size w w' := by
  obtain ⟨W0, hW0⟩ : ∃ W0, W0 = ((w.alloc (.cells #[.int .i64 k9, .int .i64 a, .int .i64 b, .int .i64 c9, .string s9, .int .i64 n9, .slice la l.length lc, .slice ta t.length tc] 30)).alloc (.cells #[.pointer none] 78)).alloc (.cells #[.pointer none, .pointer (some ⟨w.heap.size + 1, 0, none⟩)] 23) := ⟨_, rfl⟩
  have HW : Hid (((w.alloc (.cells #[.int .i64 k9, .int .i64 a, .int .i64 b, .int .i64 c9, .string s9, .int .i64 n9, .slice la l.length lc, .slice ta t.length tc] 30)).alloc (.cells #[.pointer none] 78)).alloc (.cells #[.pointer none, .pointer (some ⟨w.heap.size + 1, 0, none⟩)] 23) = W0) := hW0.symm
  have hA : Bx W0 w.heap.size #[.int .i64 k9, .int .i64 a, .int .i64 b, .int .i64 c9, .string s9, .int .i64 n9, .slice la l.length lc, .slice ta t.length tc] 30 := by
    rw [hW0]; exact ((Bx.new w _ _).kept (grown_alloc _ _ none) (by simp)).kept (grown_alloc _ _ none) (by simp)
  have hZ : Bx W0 (w.heap.size + 1) #[.pointer none] 78 := by
    have := Bx.new (w.alloc (.cells #[.int .i64 k9, .int .i64 a, .int .i64 b, .int .i64 c9, .string s9, .int .i64 n9, .slice la l.length lc, .slice ta t.length tc] 30)) #[.pointer none] 78
    rw [World.size_alloc] at this
    rw [hW0]; exact this.kept (grown_alloc _ _ none) (by simp)
  have hP : Bx W0 (w.heap.size + 2) #[.pointer none, .pointer (some ⟨w.heap.size + 1, 0, none⟩)] 23 := by
    have := Bx.new ((w.alloc (.cells #[.int .i64 k9, .int .i64 a, .int .i64 b, .int .i64 c9, .string s9, .int .i64 n9, .slice la l.length lc, .slice ta t.length tc] 30)).alloc (.cells #[.pointer none] 78)) #[.pointer none, .pointer (some ⟨w.heap.size + 1, 0, none⟩)] 23
    rw [World.size_alloc, World.size_alloc] at this
    rw [hW0]; exact this
  have hB0 : Below w.heap.size w W0 := by rw [hW0]; exact (((Below.refl _ w).alloc (Nat.le_refl _) _).alloc (by simp) _).alloc (by simp; omega) _
  have HN1 : Hid (NobC W0 (.pointer none) a b c9 n9 s9 (.slice la l.length lc) (.slice ta t.length tc)) := NobC.mk' (fun W _ => kept_nil W) (hl.below hB0) (ht.below hB0) hn hm
  have HN2 : Hid (NobC W0 (.pointer (some ⟨w.heap.size + 1, 0, none⟩)) a b c9 n9 s9 (.slice la l.length lc) (.slice ta t.length tc)) := NobC.mk' (fun W h => kept_zero _ W (hZ.below h hZ.lt)) (hl.below hB0) (ht.below hB0) hn hm
  have HP : Hid (Bx W0 (w.heap.size + 2) #[.pointer none, .pointer (some ⟨w.heap.size + 1, 0, none⟩)] 23) := hP
  have HCe : Hid (∀ V, Below W0.heap.size W0 V → V.cell? ⟨w.heap.size, 0, none⟩ = some (.int .i64 k9) ∧ V.cell? ⟨w.heap.size, 1, none⟩ = some (.int .i64 a) ∧ V.cell? ⟨w.heap.size, 2, none⟩ = some (.int .i64 b) ∧ V.cell? ⟨w.heap.size, 3, none⟩ = some (.int .i64 c9) ∧ V.cell? ⟨w.heap.size, 4, none⟩ = some (.string s9) ∧ V.cell? ⟨w.heap.size, 5, none⟩ = some (.int .i64 n9) ∧ V.cell? ⟨w.heap.size, 6, none⟩ = some (.slice la l.length lc) ∧ V.cell? ⟨w.heap.size, 7, none⟩ = some (.slice ta t.length tc)) := fun V h => by
    have hx := hA.below h hA.lt
    exact ⟨hx.cell 0, hx.cell 1, hx.cell 2, hx.cell 3, hx.cell 4, hx.cell 5, hx.cell 6, hx.cell 7⟩
  have HAW : Hid (∀ W, Below W0.heap.size W0 W → Calls Try.prog 14 #[] W fun e w' => e = .returned (.bool true) ∧ Below w.heap.size w w') := fun W h => (xcawake W).mono fun _ _ k => ⟨k.1, hB0.trans ((h.trans (k.2.mono h.size)).mono hB0.size)⟩
  clear hA hZ hP hB0 hW0 hl ht hn hm
  go_enter Try.func8, Try.ntmps8
  go_wp2_with fail
  rw [HW.out]
  clear HW
  go_loopw [13] (fun i wr => ∃ k : Nat, k ≤ 2 ∧ i = .int .i64 k ∧ Hid (Below W0.heap.size W0 wr)) (fun i _ => 2 - (intOf i).toNat)
  case atStart => exact ⟨0, by omega, rfl, Below.refl _ _⟩
  case round =>
    obtain ⟨k, hk, rfl, HR⟩ := hrel
    rcases k with _ | _ | _ | k
    · have p0 : wr.cell? ⟨w.heap.size + 1 + 1, 0, none⟩ = some (.pointer none) := (HP.out.below HR.out HP.out.lt).cell 0
      obtain ⟨c0, c1, c2, c3, c4, c5, c6, c7⟩ := HCe.out wr HR.out
      go_wp2_with (first | (go_at_call 28; refine (HN1.out.lines _ HR.out).mono ?_; rintro e w1 ⟨v1, rfl, hb1⟩; have HB1 : Hid (Below W0.heap.size W0 w1) := hb1; obtain ⟨x0, x1, x2, x3, x4, x5, x6, x7⟩ := HCe.out w1 hb1; clear hb1) | (go_at_call 27; refine (HN1.out.mv _ _ HB1.out).mono ?_; rintro e w9 ⟨rfl, rfl⟩) | (go_at_call 29; refine (HN1.out.sh _ HB1.out).mono ?_; rintro e w2 ⟨rfl, hb2⟩; have HB2 : Hid (Below W0.heap.size W0 w2) := hb2; obtain ⟨y0, y1, y2, y3, y4, y5, y6, y7⟩ := HCe.out w2 hb2; clear hb2) | (go_at_call 26; refine (HN1.out.br _ HB2.out).mono ?_; rintro e w9 ⟨rfl, rfl⟩) | (go_at_call 16; refine (HN1.out.pos _ HB2.out).mono ?_; rintro e w3 ⟨rfl, hb3⟩; have HB3 : Hid (Below W0.heap.size W0 w3) := hb3; obtain ⟨z0, z1, z2, z3, z4, z5, z6, z7⟩ := HCe.out w3 hb3; clear hb3) | (go_at_call 17; refine (HN1.out.pal _ HB3.out).mono ?_; rintro e w4 ⟨rfl, hb4⟩; have HB4 : Hid (Below W0.heap.size W0 w4) := hb4; obtain ⟨u0, u1, u2, u3, u4, u5, u6, u7⟩ := HCe.out w4 hb4; clear hb4) | (go_at_call 22; refine (HN1.out.th _ HB4.out).mono ?_; rintro e w9 ⟨rfl, rfl⟩) | (go_at_call 24; refine (HN1.out.out _ HB4.out).mono ?_; rintro e w9 ⟨rfl, rfl⟩) | (go_at_call 19; refine (HN1.out.lots _ HB4.out).mono ?_; rintro e w9 ⟨rfl, rfl⟩) | (go_at_call 34; refine (HN1.out.all _ HB4.out).mono ?_; rintro e w9 ⟨rfl, rfl⟩) | (go_at_call 33; refine (HN1.out.cl _ HB4.out).mono ?_; rintro e w9 ⟨rfl, rfl⟩))
      exact ⟨⟨1, by omega, rfl, HB4⟩, by simp [intOf]⟩
    · have p0 : wr.cell? ⟨w.heap.size + 1 + 1, 1, none⟩ = some (.pointer (some ⟨w.heap.size + 1, 0, none⟩)) := (HP.out.below HR.out HP.out.lt).cell 1
      obtain ⟨c0, c1, c2, c3, c4, c5, c6, c7⟩ := HCe.out wr HR.out
      go_wp2_with (first | (go_at_call 28; refine (HN2.out.lines _ HR.out).mono ?_; rintro e w1 ⟨v1, rfl, hb1⟩; have HB1 : Hid (Below W0.heap.size W0 w1) := hb1; obtain ⟨x0, x1, x2, x3, x4, x5, x6, x7⟩ := HCe.out w1 hb1; clear hb1) | (go_at_call 27; refine (HN2.out.mv _ _ HB1.out).mono ?_; rintro e w9 ⟨rfl, rfl⟩) | (go_at_call 29; refine (HN2.out.sh _ HB1.out).mono ?_; rintro e w2 ⟨rfl, hb2⟩; have HB2 : Hid (Below W0.heap.size W0 w2) := hb2; obtain ⟨y0, y1, y2, y3, y4, y5, y6, y7⟩ := HCe.out w2 hb2; clear hb2) | (go_at_call 26; refine (HN2.out.br _ HB2.out).mono ?_; rintro e w9 ⟨rfl, rfl⟩) | (go_at_call 16; refine (HN2.out.pos _ HB2.out).mono ?_; rintro e w3 ⟨rfl, hb3⟩; have HB3 : Hid (Below W0.heap.size W0 w3) := hb3; obtain ⟨z0, z1, z2, z3, z4, z5, z6, z7⟩ := HCe.out w3 hb3; clear hb3) | (go_at_call 17; refine (HN2.out.pal _ HB3.out).mono ?_; rintro e w4 ⟨rfl, hb4⟩; have HB4 : Hid (Below W0.heap.size W0 w4) := hb4; obtain ⟨u0, u1, u2, u3, u4, u5, u6, u7⟩ := HCe.out w4 hb4; clear hb4) | (go_at_call 22; refine (HN2.out.th _ HB4.out).mono ?_; rintro e w9 ⟨rfl, rfl⟩) | (go_at_call 24; refine (HN2.out.out _ HB4.out).mono ?_; rintro e w9 ⟨rfl, rfl⟩) | (go_at_call 19; refine (HN2.out.lots _ HB4.out).mono ?_; rintro e w9 ⟨rfl, rfl⟩) | (go_at_call 34; refine (HN2.out.all _ HB4.out).mono ?_; rintro e w9 ⟨rfl, rfl⟩) | (go_at_call 33; refine (HN2.out.cl _ HB4.out).mono ?_; rintro e w9 ⟨rfl, rfl⟩))
      exact ⟨⟨2, by omega, rfl, HB4⟩, by simp [intOf]⟩
    · go_wp2_with (go_at_call 14; refine (HAW.out _ HR.out).mono ?_; rintro e w1 ⟨rfl, hb1⟩)
      go_ret
      exact ⟨rfl, hb1⟩
    · omega
end Go.Proofs.Ytbfnfebmmhhegaa
