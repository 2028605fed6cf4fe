/- layer 14: lacking, New, of, least, Left of both, Index, Contains, has -/
import Derived.Test.YtheikjjehidagaaQF
import Derived.WalkKit
import Derived.ProofKit
import Derived.Handy
import Derived.WalkLawsBesides
import Derived.WalkSpells
import Derived.BigQuiet
import Derived.BigCall
import Derived.Deep.QuietTactic
import Derived.Deep.Light
import Derived.Deep.OwnRows
import Derived.Laws.AppendOwnNone
import Derived.Laws.Strings3
import Derived.Laws.RangeAny
import Derived.Deep.RegionWith
import Derived.Lib.BitFns
import Derived.Lib.Walk
import Derived.Lib.Strings
import Derived.Lib.OthersKept
import Derived.Deep.CutBlock
import Derived.Deep.DeepCutAuto
import Derived.Deep.LoopGhost
import Derived.Deep.RegionHeld3
import Derived.Lib.SmallJoins
import Derived.Maps.AppendAt
import Derived.Laws.IdiomStrings
import Derived.Lib.AppendZeros
import Derived.Deep.WholeRow
import Derived.Laws.BitsAllLaws
import Derived.Lib.ConvBytes
import Derived.Deep.RegionLaw
import Derived.Maps.OwnSet
import Derived.Maps.OwnOps
import Derived.Maps.RangeWalk
import Derived.Maps.Ext
import Derived.DeepKeys4
import Derived.Laws.StructEq
import Derived.Deep.MidRow
import Derived.Lib.Bytealg
import Derived.Lib.Overlaps
import Derived.Lib.AppendZerosOnto
import Derived.Laws.MakeOwn
namespace Go.Proofs.Ytheikjjehidagaa.H5.N14
open Go.RowKit
set_option linter.unusedVariables false
set_option linter.unusedSimpArgs false
set_option maxRecDepth 20000
def acs (a : As) : Array Value := #[.string a.i, .int .i64 a.iss, .int .i64 a.rat, .int .i64 a.mat, .string a.c]
theorem xleast0 (i0 i1 i3 i4 i5 i7 i8 : Int) (s : ByteArray) (ca ba : Option Addr) (nc cc nb bc : Nat) (w : World) : Calls Try.prog 106 #[.agg #[.int .i64 i0, .int .i64 i1, .string s, .int .i64 i3, .int .i64 i4, .int .i64 i5, .slice ca nc cc, .int .i64 i7, .int .i64 i8, .slice ba nb bc]] w (KP (.int .i64 (max i4 1)) w) := by
  have HB : Hid (∀ y, Below w.heap.size w (w.alloc y)) := fun y => below_a w y
  generalize hn : max i4 1 = n
  have HN : Hid (n = max i4 1) := hn.symm
  clear hn
  go_enter Try.func106, Try.ntmps106
  go_wp2_with fail
  go_ret
  exact KP.mk (congrArg (Value.int .i64) HN.out.symm) (HB.out _)
theorem xleft (a : As) (d : Int) (hm : 0 ≤ a.mat ∧ a.mat ≤ 200000) (w : World) : Calls Try.prog 105 #[.agg (acs a), .int .i64 d] w (KP (.int .i64 (leftN a.mat d)) w) := by
  have HB : Hid (∀ y, Below w.heap.size w (w.alloc y)) := fun y => below_a w y
  unfold leftN acs
  generalize a.mat = m at *
  by_cases h1 : d < 0
  · rw [if_pos (.inl h1)]
    go_enter Try.func105, Try.ntmps105
    go_wp2_with fail
    go_ret
    exact KP.mk rfl (HB.out _)
  by_cases h2 : 200000 < d
  · rw [if_pos (.inr h2)]
    go_enter Try.func105, Try.ntmps105
    go_wp2_with fail
    go_ret
    exact KP.mk rfl (HB.out _)
  · rw [if_neg (by omega)]
    go_enter Try.func105, Try.ntmps105
    go_wp2_with fail
    go_ret
    exact KP.mk rfl (HB.out _)
theorem rleft (a : As) (d : Int) (hm : 0 ≤ a.mat ∧ a.mat ≤ 200000) (w : World) : Calls Try.prog 91 #[.agg (acs a), .int .i64 d] w (KP (.int .i64 (leftN a.mat d)) w) := by
  have HB : Hid (∀ y, Below w.heap.size w (w.alloc y)) := fun y => below_a w y
  unfold leftN acs
  generalize a.mat = m at *
  by_cases h1 : d < 0
  · rw [if_pos (.inl h1)]
    go_enter Try.func91, Try.ntmps91
    go_wp2_with fail
    go_ret
    exact KP.mk rfl (HB.out _)
  by_cases h2 : 200000 < d
  · rw [if_pos (.inr h2)]
    go_enter Try.func91, Try.ntmps91
    go_wp2_with fail
    go_ret
    exact KP.mk rfl (HB.out _)
  · rw [if_neg (by omega)]
    go_enter Try.func91, Try.ntmps91
    go_wp2_with fail
    go_ret
    exact KP.mk rfl (HB.out _)
def IxP (g : Bool) (w : World) (e : Ending) (w' : World) : Prop := ∃ n : Int, e = .returned (.int .i64 n) ∧ Hid (decide (0 ≤ n) = g) ∧ w = w'
theorem IxP.mk {g : Bool} {w : World} {n : Int} (h : decide (0 ≤ n) = g) : IxP g w (.returned (.int .i64 n)) w := ⟨n, rfl, h, rfl⟩
theorem con_at {xs : List Int} {n : Int} {k : Nat} (h : k < xs.length) : (xs.drop k).contains n = (decide (n = xs[k]) || (xs.drop (k + 1)).contains n) := by
  rw [drop_at' h, List.contains_cons]
  congr 1
set_option maxHeartbeats 4000000 in
theorem xindex (xs : List Int) (a : Option Addr) (cap : Nat) (n : Int) (w : World) (hC : Ins w.heap.size w a xs) (hl : xs.length ≤ 1000000000000) (g : Bool) (hg : xs.contains n = g) : Calls Try.prog 115 #[.slice a xs.length cap, .int .i64 n] w (IxP g w) := by
  have HI : Hid (Ins w.heap.size w a xs) := hC
  have HG : Hid ((xs.drop 0).contains n = g) := hg
  clear hC hg
  go_enter Try.func115, Try.ntmps115
  go_wp2_with fail
  go_loopw [8] (fun i wr => ∃ (k : Nat), i = .int .i64 k ∧ k ≤ xs.length ∧ Hid ((xs.drop k).contains n = g) ∧ wr = w) (fun i _ => xs.length - (Lib.intOf i).toNat)
  case atStart => exact ⟨0, rfl, Nat.zero_le _, HG, rfl⟩
  case round =>
    clear HG
    obtain ⟨k, rfl, hk, HK, rfl⟩ := hrel
    by_cases hkn : k < xs.length
    · have hkz : (k : Int) < (xs.length : Int) := by omega
      obtain ⟨b, off, rfl, hbl, hce⟩ := HI.out (by omega)
      have hc1 := hce k hkn
      have HK2 : Hid ((decide (n = xs[k]) || (xs.drop (k + 1)).contains n) = g) := by unfold Hid; rw [← con_at hkn]; exact HK.out
      clear HK hce
      generalize xs[k] = x at *
      by_cases e1 : n = x
      · have HK3 : Hid (true = g) := by have := HK2.out; rw [decide_eq_true e1] at this; exact this
        clear HK2
        subst e1
        go_wp2_with fail
        go_ret
        exact IxP.mk (by rw [← HK3.out]; simp)
      · have HK3 : Hid ((xs.drop (k + 1)).contains n = g) := by have := HK2.out; rw [decide_eq_false e1] at this; exact this
        have e2 : (n == x) = false := by simpa using e1
        clear HK2
        go_wp2_with fail
        exact ⟨⟨k + 1, by go_num, by omega, HK3, trivial⟩, by simp [Lib.intOf]; omega⟩
    · have hkz : ¬ (k : Int) < (xs.length : Int) := by omega
      have HK3 : Hid (false = g) := by have := HK.out; rw [List.drop_of_length_le (by omega)] at this; exact this
      go_wp2_with fail
      go_ret
      exact IxP.mk HK3.out
theorem xcontainsB (xs : List Int) (a : Option Addr) (cap : Nat) (n : Int) (w : World) (hC : Ins w.heap.size w a xs) (hl : xs.length ≤ 1000000000000) (g : Bool) (hg : xs.contains n = g) : Calls Try.prog 107 #[.slice a xs.length cap, .int .i64 n] w (BP g w) := by
  have H1 : Hid (Calls Try.prog 115 #[.slice a xs.length cap, .int .i64 n] w (IxP g w)) := xindex xs a cap n w hC hl g hg
  clear hC hg
  go_enter Try.func107, Try.ntmps107
  go_wp2_with (go_at_call 115; refine H1.out.mono ?_; rintro e w2 ⟨i, rfl, HI, rfl⟩)
  go_ret
  exact BP.mk HI.out
set_option maxHeartbeats 4000000 in
theorem rhasB (xs : List Int) (a : Option Addr) (cap : Nat) (n : Int) (w : World) (hC : Ins w.heap.size w a xs) (hl : xs.length ≤ 1000000000000) (g : Bool) (hg : xs.contains n = g) : Calls Try.prog 92 #[.slice a xs.length cap, .int .i64 n] w (BP g w) := by
  have HI : Hid (Ins w.heap.size w a xs) := hC
  have HG : Hid ((xs.drop 0).contains n = g) := hg
  clear hC hg
  go_enter Try.func92, Try.ntmps92
  go_wp2_with fail
  go_loopw [5] (fun i wr => ∃ (k : Nat), i = .int .i64 k ∧ k ≤ xs.length ∧ Hid ((xs.drop k).contains n = g) ∧ wr = w) (fun i _ => xs.length - (Lib.intOf i).toNat)
  case atStart => exact ⟨0, rfl, Nat.zero_le _, HG, rfl⟩
  case round =>
    clear HG
    obtain ⟨k, rfl, hk, HK, rfl⟩ := hrel
    by_cases hkn : k < xs.length
    · have hkz : (k : Int) < (xs.length : Int) := by omega
      obtain ⟨b, off, rfl, hbl, hce⟩ := HI.out (by omega)
      have hc1 := hce k hkn
      have HK2 : Hid ((decide (n = xs[k]) || (xs.drop (k + 1)).contains n) = g) := by unfold Hid; rw [← con_at hkn]; exact HK.out
      clear HK hce
      generalize xs[k] = x at *
      by_cases e1 : n = x
      · have HK3 : Hid (true = g) := by have := HK2.out; rw [decide_eq_true e1] at this; exact this
        clear HK2
        subst e1
        go_wp2_with fail
        go_ret
        exact BP.mk HK3.out
      · have HK3 : Hid ((xs.drop (k + 1)).contains n = g) := by have := HK2.out; rw [decide_eq_false e1] at this; exact this
        have e2 : (x == n) = false := by simp; exact fun h => e1 h.symm
        clear HK2
        go_wp2_with fail
        exact ⟨⟨k + 1, by go_num, by omega, HK3, trivial⟩, by simp [Lib.intOf]; omega⟩
    · have hkz : ¬ (k : Int) < (xs.length : Int) := by omega
      have HK3 : Hid (false = g) := by have := HK.out; rw [List.drop_of_length_le (by omega)] at this; exact this
      go_wp2_with fail
      go_ret
      exact BP.mk HK3.out
theorem BP.kp {g : Bool} {w : World} {e : Ending} {w' : World} (h : BP g w e w') : KP (.bool g) w e w' := ⟨h.1, by rw [← h.2]; exact Below.refl _ _⟩
theorem rhas (xs : List Int) (a : Option Addr) (cap : Nat) (n : Int) (w : World) (hC : Ins w.heap.size w a xs) (hl : xs.length ≤ 1000000000000) (g : Bool) (hg : xs.contains n = g) : Calls Try.prog 92 #[.slice a xs.length cap, .int .i64 n] w (KP (.bool g) w) := (rhasB xs a cap n w hC hl g hg).mono fun _ _ h => h.kp
theorem xcontains (xs : List Int) (a : Option Addr) (cap : Nat) (n : Int) (w : World) (hC : Ins w.heap.size w a xs) (hl : xs.length ≤ 1000000000000) (g : Bool) (hg : xs.contains n = g) : Calls Try.prog 107 #[.slice a xs.length cap, .int .i64 n] w (KP (.bool g) w) := (xcontainsB xs a cap n w hC hl g hg).mono fun _ _ h => h.kp
set_option maxRecDepth 20000
theorem whyN_1 {ar br left least most : Int} {z : Bool} : whyN false ar br left least most z = 1 := by unfold whyN; simp
theorem whyN_2 {ar br left least most : Int} {z : Bool} (h : br < ar) : whyN true ar br left least most z = 2 := by unfold whyN; simp [h]
theorem whyN_3 {ar br left least most : Int} {z : Bool} (h : ¬ br < ar) (h2 : left < 1 ∨ left < least) : whyN true ar br left least most z = 3 := by unfold whyN; simp [h, h2]
theorem whyN_4 {ar br left least most : Int} {z : Bool} (h : ¬ br < ar) (h2 : ¬ (left < 1 ∨ left < least)) (h3 : most < left) : whyN true ar br left least most z = 4 := by unfold whyN; rw [if_neg (by simp), if_neg h, if_neg h2, if_pos h3]
theorem whyN_5 {ar br left least most : Int} (h : ¬ br < ar) (h2 : ¬ (left < 1 ∨ left < least)) (h3 : ¬ most < left) : whyN true ar br left least most true = 5 := by unfold whyN; rw [if_neg (by simp), if_neg h, if_neg h2, if_neg h3, if_pos rfl]
theorem whyN_0 {ar br left least most : Int} (h : ¬ br < ar) (h2 : ¬ (left < 1 ∨ left < least)) (h3 : ¬ most < left) : whyN true ar br left least most false = 0 := by unfold whyN; rw [if_neg (by simp), if_neg h, if_neg h2, if_neg h3, if_neg (by simp)]
set_option maxHeartbeats 8000000 in
theorem xwhy0 (i0 i1 i3 i4 i5 i7 i8 : Int) (s : ByteArray) (ca ba : Option Addr) (nc cc bc : Nat) (ys : List Int) (ai ac : ByteArray) (a1 a2 m d : Int) (hm : 0 ≤ m ∧ m ≤ 200000) (w : World) (hI : Ins w.heap.size w ba ys) (hlb : ys.length ≤ 1000000) (t : Int) (ht : leftN m d = t) (z : Bool) (hz : ys.contains a1 = z) (c : Bool) (hc : (ac.toList == s.toList) = c) (g : Int) (hg : whyN c a2 i3 t i4 i5 z = g) : Calls Try.prog 89 #[.agg #[.int .i64 i0, .int .i64 i1, .string s, .int .i64 i3, .int .i64 i4, .int .i64 i5, .slice ca nc cc, .int .i64 i7, .int .i64 i8, .slice ba ys.length bc], .agg #[.string ai, .int .i64 a1, .int .i64 a2, .int .i64 m, .string ac], .int .i64 d] w (KP (.int .i64 g) w) := by
  have H36 : Hid (∀ W, Calls Try.prog 105 #[.agg #[.string ai, .int .i64 a1, .int .i64 a2, .int .i64 m, .string ac], .int .i64 d] W (KP (.int .i64 t) W)) := fun W => by rw [← ht]; exact xleft ⟨ai, a1, a2, m, ac⟩ d hm W
  have H37 : Hid (∀ W, Calls Try.prog 106 #[.agg #[.int .i64 i0, .int .i64 i1, .string s, .int .i64 i3, .int .i64 i4, .int .i64 i5, .slice ca nc cc, .int .i64 i7, .int .i64 i8, .slice ba ys.length bc]] W (KP (.int .i64 (max i4 1)) W)) := fun W => xleast0 i0 i1 i3 i4 i5 i7 i8 s ca ba nc cc ys.length bc W
  have H38 : Hid (∀ W, Below w.heap.size w W → Calls Try.prog 107 #[.slice ba ys.length bc, .int .i64 a1] W (KP (.bool z) W)) := fun W hW => xcontains ys ba bc a1 W ((hI.keep hW).mono hW.size) (by omega) z hz
  have HX0 : Hid (Bx ((w.alloc (.cells #[.int .i64 i0, .int .i64 i1, .string s, .int .i64 i3, .int .i64 i4, .int .i64 i5, .slice ca nc cc, .int .i64 i7, .int .i64 i8, .slice ba ys.length bc] 62)).alloc (.cells #[.string ai, .int .i64 a1, .int .i64 a2, .int .i64 m, .string ac] 45)) w.heap.size #[.int .i64 i0, .int .i64 i1, .string s, .int .i64 i3, .int .i64 i4, .int .i64 i5, .slice ca nc cc, .int .i64 i7, .int .i64 i8, .slice ba ys.length bc] 62) := (Bx.new w _ _).kept (World.grownBy_alloc _ _ none) (by simp)
  have HA0 : Hid (Bx ((w.alloc (.cells #[.int .i64 i0, .int .i64 i1, .string s, .int .i64 i3, .int .i64 i4, .int .i64 i5, .slice ca nc cc, .int .i64 i7, .int .i64 i8, .slice ba ys.length bc] 62)).alloc (.cells #[.string ai, .int .i64 a1, .int .i64 a2, .int .i64 m, .string ac] 45)) (w.heap.size + 1) #[.string ai, .int .i64 a1, .int .i64 a2, .int .i64 m, .string ac] 45) := by
    have := Bx.new (w.alloc (.cells #[.int .i64 i0, .int .i64 i1, .string s, .int .i64 i3, .int .i64 i4, .int .i64 i5, .slice ca nc cc, .int .i64 i7, .int .i64 i8, .slice ba ys.length bc] 62)) #[.string ai, .int .i64 a1, .int .i64 a2, .int .i64 m, .string ac] 45
    rw [World.size_alloc] at this
    exact this
  have HB0 : Hid (Below w.heap.size w ((w.alloc (.cells #[.int .i64 i0, .int .i64 i1, .string s, .int .i64 i3, .int .i64 i4, .int .i64 i5, .slice ca nc cc, .int .i64 i7, .int .i64 i8, .slice ba ys.length bc] 62)).alloc (.cells #[.string ai, .int .i64 a1, .int .i64 a2, .int .i64 m, .string ac] 45))) := ((Below.refl _ w).alloc (Nat.le_refl _) _).alloc (by simp) _
  have HG : Hid (whyN c a2 i3 t i4 i5 z = g) := hg
  have hn : (ac.toList != s.toList) = !c := by rw [← hc]; rfl
  clear hg ht hz hI
  generalize ys.length = nb at *
  go_enter Try.func89, Try.ntmps89
  go_wp2_with fail
  refine (H36.out _).mono ?_
  rintro e w1 ⟨rfl, hb⟩
  have HX : Hid (Bx w1 w.heap.size #[.int .i64 i0, .int .i64 i1, .string s, .int .i64 i3, .int .i64 i4, .int .i64 i5, .slice ca nc cc, .int .i64 i7, .int .i64 i8, .slice ba nb bc] 62) := HX0.out.keep hb.out
  have HA : Hid (Bx w1 (w.heap.size + 1) #[.string ai, .int .i64 a1, .int .i64 a2, .int .i64 m, .string ac] 45) := HA0.out.keep hb.out
  have HB : Hid (Below w.heap.size w w1) := HB0.out.trans (hb.out.mono HB0.out.size)
  clear H36 hb HX0 HA0 HB0
  have c0 : w1.cell? ⟨w.heap.size, 0, none⟩ = some (.int .i64 i0) := HX.out.cell 0
  have c1 : w1.cell? ⟨w.heap.size, 1, none⟩ = some (.int .i64 i1) := HX.out.cell 1
  have c2 : w1.cell? ⟨w.heap.size, 2, none⟩ = some (.string s) := HX.out.cell 2
  have c3 : w1.cell? ⟨w.heap.size, 3, none⟩ = some (.int .i64 i3) := HX.out.cell 3
  have c4 : w1.cell? ⟨w.heap.size, 4, none⟩ = some (.int .i64 i4) := HX.out.cell 4
  have c5 : w1.cell? ⟨w.heap.size, 5, none⟩ = some (.int .i64 i5) := HX.out.cell 5
  have c6 : w1.cell? ⟨w.heap.size, 6, none⟩ = some (.slice ca nc cc) := HX.out.cell 6
  have c7 : w1.cell? ⟨w.heap.size, 7, none⟩ = some (.int .i64 i7) := HX.out.cell 7
  have c8 : w1.cell? ⟨w.heap.size, 8, none⟩ = some (.int .i64 i8) := HX.out.cell 8
  have c9 : w1.cell? ⟨w.heap.size, 9, none⟩ = some (.slice ba nb bc) := HX.out.cell 9
  have k0 : w1.cell? ⟨w.heap.size + 1, 0, none⟩ = some (.string ai) := HA.out.cell 0
  have k1 : w1.cell? ⟨w.heap.size + 1, 1, none⟩ = some (.int .i64 a1) := HA.out.cell 1
  have k2 : w1.cell? ⟨w.heap.size + 1, 2, none⟩ = some (.int .i64 a2) := HA.out.cell 2
  have k3 : w1.cell? ⟨w.heap.size + 1, 3, none⟩ = some (.int .i64 m) := HA.out.cell 3
  have k4 : w1.cell? ⟨w.heap.size + 1, 4, none⟩ = some (.string ac) := HA.out.cell 4
  cases c with
  | false =>
    have HG2 : Hid (1 = g) := by have := HG.out; rw [whyN_1] at this; exact this
    clear HG
    go_wp2_with fail
    go_ret
    exact KP.mk (congrArg (Value.int .i64) HG2.out) HB.out
  | true =>
    by_cases h2 : i3 < a2
    · have HG2 : Hid (2 = g) := by have := HG.out; rw [whyN_2 h2] at this; exact this
      clear HG
      go_wp2_with fail
      go_ret
      exact KP.mk (congrArg (Value.int .i64) HG2.out) HB.out
    · obtain ⟨l, hl⟩ : ∃ l, l = max i4 1 := ⟨_, rfl⟩
      rw [← hl] at H37
      have HL : Hid (l = max i4 1) := hl
      clear hl
      go_wp2_with fail
      refine (H37.out _).mono ?_
      rintro e w2 ⟨rfl, hb⟩
      have HB2 : Hid (Below w.heap.size w w2) := HB.out.trans (hb.out.mono HB.out.size)
      have e5 : w2.cell? ⟨w.heap.size, 5, none⟩ = some (.int .i64 i5) := (HX.out.keep hb.out).cell 5
      have e9 : w2.cell? ⟨w.heap.size, 9, none⟩ = some (.slice ba nb bc) := (HX.out.keep hb.out).cell 9
      have e1 : w2.cell? ⟨w.heap.size + 1, 1, none⟩ = some (.int .i64 a1) := (HA.out.keep hb.out).cell 1
      clear hb H37 HX HA c0 c1 c2 c3 c4 c5 c6 c7 c8 c9 k0 k1 k2 k3 k4 HB
      by_cases h3 : t < l
      · have HG2 : Hid (3 = g) := by have := HG.out; rw [whyN_3 (by omega) (by have := HL.out; omega)] at this; exact this
        clear HG
        go_wp2_with fail
        go_ret
        exact KP.mk (congrArg (Value.int .i64) HG2.out) HB2.out
      · have h3' : ¬ (t < 1 ∨ t < i4) := by have := HL.out; omega
        by_cases h4 : i5 < t
        · have HG2 : Hid (4 = g) := by have := HG.out; rw [whyN_4 (by omega) (by omega) (by omega)] at this; exact this
          clear HG
          go_wp2_with fail
          go_ret
          exact KP.mk (congrArg (Value.int .i64) HG2.out) HB2.out
        · go_wp2_with fail
          refine (H38.out _ HB2.out).mono ?_
          rintro e w3 ⟨rfl, hb⟩
          have HB3 : Hid (Below w.heap.size w w3) := HB2.out.trans (hb.out.mono HB2.out.size)
          clear hb H38
          cases z with
          | true =>
            have HG2 : Hid (5 = g) := by have := HG.out; rw [whyN_5 (by omega) (by omega) (by omega)] at this; exact this
            clear HG
            go_wp2_with fail
            go_ret
            exact KP.mk (congrArg (Value.int .i64) HG2.out) HB3.out
          | false =>
            have HG2 : Hid (0 = g) := by have := HG.out; rw [whyN_0 (by omega) (by omega) (by omega)] at this; exact this
            clear HG
            go_wp2_with fail
            go_ret
            exact KP.mk (congrArg (Value.int .i64) HG2.out) HB3.out
set_option maxHeartbeats 8000000 in
theorem rwhy0 (i0 i1 i3 i4 i5 i7 i8 : Int) (s : ByteArray) (ca ba : Option Addr) (nc cc bc : Nat) (ys : List Int) (ai ac : ByteArray) (a1 a2 m d : Int) (hm : 0 ≤ m ∧ m ≤ 200000) (w : World) (hI : Ins w.heap.size w ba ys) (hlb : ys.length ≤ 1000000) (t : Int) (ht : leftN m d = t) (z : Bool) (hz : ys.contains a1 = z) (c : Bool) (hc : (ac.toList == s.toList) = c) (g : Int) (hg : whyN c a2 i3 t i4 i5 z = g) : Calls Try.prog 65 #[.agg #[.int .i64 i0, .int .i64 i1, .string s, .int .i64 i3, .int .i64 i4, .int .i64 i5, .slice ca nc cc, .int .i64 i7, .int .i64 i8, .slice ba ys.length bc], .agg #[.string ai, .int .i64 a1, .int .i64 a2, .int .i64 m, .string ac], .int .i64 d] w (KP (.int .i64 g) w) := by
  have H34 : Hid (∀ W, Calls Try.prog 91 #[.agg #[.string ai, .int .i64 a1, .int .i64 a2, .int .i64 m, .string ac], .int .i64 d] W (KP (.int .i64 t) W)) := fun W => by rw [← ht]; exact rleft ⟨ai, a1, a2, m, ac⟩ d hm W
  have H35 : Hid (∀ W, Below w.heap.size w W → Calls Try.prog 92 #[.slice ba ys.length bc, .int .i64 a1] W (KP (.bool z) W)) := fun W hW => rhas ys ba bc a1 W ((hI.keep hW).mono hW.size) (by omega) z hz
  have HX0 : Hid (Bx ((w.alloc (.cells #[.int .i64 i0, .int .i64 i1, .string s, .int .i64 i3, .int .i64 i4, .int .i64 i5, .slice ca nc cc, .int .i64 i7, .int .i64 i8, .slice ba ys.length bc] 62)).alloc (.cells #[.string ai, .int .i64 a1, .int .i64 a2, .int .i64 m, .string ac] 45)) w.heap.size #[.int .i64 i0, .int .i64 i1, .string s, .int .i64 i3, .int .i64 i4, .int .i64 i5, .slice ca nc cc, .int .i64 i7, .int .i64 i8, .slice ba ys.length bc] 62) := (Bx.new w _ _).kept (World.grownBy_alloc _ _ none) (by simp)
  have HA0 : Hid (Bx ((w.alloc (.cells #[.int .i64 i0, .int .i64 i1, .string s, .int .i64 i3, .int .i64 i4, .int .i64 i5, .slice ca nc cc, .int .i64 i7, .int .i64 i8, .slice ba ys.length bc] 62)).alloc (.cells #[.string ai, .int .i64 a1, .int .i64 a2, .int .i64 m, .string ac] 45)) (w.heap.size + 1) #[.string ai, .int .i64 a1, .int .i64 a2, .int .i64 m, .string ac] 45) := by
    have := Bx.new (w.alloc (.cells #[.int .i64 i0, .int .i64 i1, .string s, .int .i64 i3, .int .i64 i4, .int .i64 i5, .slice ca nc cc, .int .i64 i7, .int .i64 i8, .slice ba ys.length bc] 62)) #[.string ai, .int .i64 a1, .int .i64 a2, .int .i64 m, .string ac] 45
    rw [World.size_alloc] at this
    exact this
  have HB0 : Hid (Below w.heap.size w ((w.alloc (.cells #[.int .i64 i0, .int .i64 i1, .string s, .int .i64 i3, .int .i64 i4, .int .i64 i5, .slice ca nc cc, .int .i64 i7, .int .i64 i8, .slice ba ys.length bc] 62)).alloc (.cells #[.string ai, .int .i64 a1, .int .i64 a2, .int .i64 m, .string ac] 45))) := ((Below.refl _ w).alloc (Nat.le_refl _) _).alloc (by simp) _
  have HG : Hid (whyN c a2 i3 t i4 i5 z = g) := hg
  have hn : (ac.toList != s.toList) = !c := by rw [← hc]; rfl
  clear hg ht hz hI
  generalize ys.length = nb at *
  go_enter Try.func65, Try.ntmps65
  cases c with
  | false =>
    have HG2 : Hid (1 = g) := by have := HG.out; rw [whyN_1] at this; exact this
    clear HG
    go_wp2_with fail
    go_ret
    exact KP.mk (congrArg (Value.int .i64) HG2.out) HB0.out
  | true =>
    by_cases h2 : i3 < a2
    · have HG2 : Hid (2 = g) := by have := HG.out; rw [whyN_2 h2] at this; exact this
      clear HG
      go_wp2_with fail
      go_ret
      exact KP.mk (congrArg (Value.int .i64) HG2.out) HB0.out
    · go_wp2_with fail
      refine (H34.out _).mono ?_
      rintro e w2 ⟨rfl, hb⟩
      have HB2 : Hid (Below w.heap.size w w2) := HB0.out.trans (hb.out.mono HB0.out.size)
      have e4 : w2.cell? ⟨w.heap.size, 4, none⟩ = some (.int .i64 i4) := (HX0.out.keep hb.out).cell 4
      have e5 : w2.cell? ⟨w.heap.size, 5, none⟩ = some (.int .i64 i5) := (HX0.out.keep hb.out).cell 5
      have e9 : w2.cell? ⟨w.heap.size, 9, none⟩ = some (.slice ba nb bc) := (HX0.out.keep hb.out).cell 9
      have e1 : w2.cell? ⟨w.heap.size + 1, 1, none⟩ = some (.int .i64 a1) := (HA0.out.keep hb.out).cell 1
      clear hb H34 HX0 HA0 HB0
      by_cases h3 : t < 1
      · have HG2 : Hid (3 = g) := by have := HG.out; rw [whyN_3 (by omega) (.inl h3)] at this; exact this
        clear HG
        go_wp2_with fail
        go_ret
        exact KP.mk (congrArg (Value.int .i64) HG2.out) HB2.out
      by_cases h3b : t < i4
      · have HG2 : Hid (3 = g) := by have := HG.out; rw [whyN_3 (by omega) (.inr h3b)] at this; exact this
        clear HG
        go_wp2_with fail
        go_ret
        exact KP.mk (congrArg (Value.int .i64) HG2.out) HB2.out
      · have h3' : ¬ (t < 1 ∨ t < i4) := by omega
        by_cases h4 : i5 < t
        · have HG2 : Hid (4 = g) := by have := HG.out; rw [whyN_4 (by omega) (by omega) (by omega)] at this; exact this
          clear HG
          go_wp2_with fail
          go_ret
          exact KP.mk (congrArg (Value.int .i64) HG2.out) HB2.out
        · go_wp2_with fail
          refine (H35.out _ HB2.out).mono ?_
          rintro e w3 ⟨rfl, hb⟩
          have HB3 : Hid (Below w.heap.size w w3) := HB2.out.trans (hb.out.mono HB2.out.size)
          clear hb H35
          cases z with
          | true =>
            have HG2 : Hid (5 = g) := by have := HG.out; rw [whyN_5 (by omega) (by omega) (by omega)] at this; exact this
            clear HG
            go_wp2_with fail
            go_ret
            exact KP.mk (congrArg (Value.int .i64) HG2.out) HB3.out
          | false =>
            have HG2 : Hid (0 = g) := by have := HG.out; rw [whyN_0 (by omega) (by omega) (by omega)] at this; exact this
            clear HG
            go_wp2_with fail
            go_ret
            exact KP.mk (congrArg (Value.int .i64) HG2.out) HB3.out
set_option maxHeartbeats 8000000 in
theorem xfits0 (i0 i1 i3 i4 i5 i7 i8 : Int) (s : ByteArray) (ca ba : Option Addr) (nc cc nb bc : Nat) (ai ac : ByteArray) (a1 a2 m d : Int) (w : World) (g : Int) (z : Bool) (hz : decide (g = 0) = z) (H : ∀ W, Below w.heap.size w W → Calls Try.prog 89 #[.agg #[.int .i64 i0, .int .i64 i1, .string s, .int .i64 i3, .int .i64 i4, .int .i64 i5, .slice ca nc cc, .int .i64 i7, .int .i64 i8, .slice ba nb bc], .agg #[.string ai, .int .i64 a1, .int .i64 a2, .int .i64 m, .string ac], .int .i64 d] W (KP (.int .i64 g) W)) : Calls Try.prog 62 #[.agg #[.int .i64 i0, .int .i64 i1, .string s, .int .i64 i3, .int .i64 i4, .int .i64 i5, .slice ca nc cc, .int .i64 i7, .int .i64 i8, .slice ba nb bc], .agg #[.string ai, .int .i64 a1, .int .i64 a2, .int .i64 m, .string ac], .int .i64 d] w (KP (.bool z) w) := by
  have HH : Hid (∀ W, Below w.heap.size w W → Calls Try.prog 89 #[.agg #[.int .i64 i0, .int .i64 i1, .string s, .int .i64 i3, .int .i64 i4, .int .i64 i5, .slice ca nc cc, .int .i64 i7, .int .i64 i8, .slice ba nb bc], .agg #[.string ai, .int .i64 a1, .int .i64 a2, .int .i64 m, .string ac], .int .i64 d] W (KP (.int .i64 g) W)) := H
  have HB0 : Hid (Below w.heap.size w ((w.alloc (.cells #[.int .i64 i0, .int .i64 i1, .string s, .int .i64 i3, .int .i64 i4, .int .i64 i5, .slice ca nc cc, .int .i64 i7, .int .i64 i8, .slice ba nb bc] 62)).alloc (.cells #[.string ai, .int .i64 a1, .int .i64 a2, .int .i64 m, .string ac] 45))) := ((Below.refl _ w).alloc (Nat.le_refl _) _).alloc (by simp) _
  have hz2 : (g == 0) = z := by rw [← hz, Bool.eq_iff_iff]; simp
  clear H hz
  go_enter Try.func62, Try.ntmps62
  go_wp2_with fail
  refine (HH.out _ HB0.out).mono ?_
  rintro e w2 ⟨rfl, hb⟩
  have HB2 : Hid (Below w.heap.size w w2) := HB0.out.trans (hb.out.mono HB0.out.size)
  clear hb HH HB0
  go_wp2_with fail
  go_ret
  exact KP.mk rfl HB2.out
end Go.Proofs.Ytheikjjehidagaa.H5.N14
