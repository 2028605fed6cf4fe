/- layer 14: which rules are within which, by the program and by the document -/
import Derived.Test.YtmjaijpikbdfkaaR
import Derived.WalkKit
import Derived.ProofKit
import Derived.Handy
import Derived.WalkLawsBesides
import Derived.WalkSpells
import Derived.BigQuiet
import Derived.BigCall
import Derived.Deep.QuietTactic
import Derived.Deep.Light
import Derived.Deep.OwnRows
import Derived.Laws.AppendOwnNone
import Derived.Laws.Strings3
import Derived.Laws.RangeAny
import Derived.Deep.RegionWith
import Derived.Lib.BitFns
import Derived.Lib.Walk
import Derived.Lib.Strings
import Derived.Lib.OthersKept
import Derived.Deep.CutBlock
import Derived.Deep.DeepCutAuto
import Derived.Deep.LoopGhost
import Derived.Deep.RegionHeld3
import Derived.Lib.SmallJoins
import Derived.Maps.AppendAt
import Derived.Laws.IdiomStrings
import Derived.Lib.AppendZeros
import Derived.Deep.WholeRow
import Derived.Laws.BitsAllLaws
import Derived.Lib.ConvBytes
import Derived.Deep.RegionLaw
import Derived.Maps.OwnSet
import Derived.Maps.OwnOps
import Derived.Maps.RangeWalk
import Derived.Maps.Ext
import Derived.DeepKeys4
import Derived.Laws.StructEq
import Derived.Deep.MidRow
import Derived.Lib.Bytealg
import Derived.Lib.Overlaps
import Derived.Lib.AppendZerosOnto
import Derived.Laws.MakeOwn
import Derived.Deep.Upon
namespace Go.Proofs.Ytmjaijpikbdfkaa
open Go.RowKit
set_option linter.unusedVariables false
set_option linter.unusedSimpArgs false
set_option maxRecDepth 20000
set_option maxHeartbeats 4000000 in
theorem xbars0 (i0 i1 i3 i4 i5 i7 i8 : Int) (s : ByteArray) (ca ba bb : Option Addr) (nc cc bc bd : Nat) (ys ns : List Int) (w : World) (hI : Ins w.heap.size w ba ys) (hN : Ins w.heap.size w bb ns) (hly : ys.length ≤ 1000000) (hln : ns.length ≤ 1000000) (g : Bool) (hg : ns.all (fun n => ys.contains n) = g) : Calls Try.prog 39 #[.agg #[.int .i64 i0, .int .i64 i1, .string s, .int .i64 i3, .int .i64 i4, .int .i64 i5, .slice ca nc cc, .int .i64 i7, .int .i64 i8, .slice ba ys.length bc], .slice bb ns.length bd] w (KP (.bool g) w) := by
  have HG : Hid ((ns.drop 0).all (fun n => ys.contains n) = g) := hg
  have HI : Hid (Ins w.heap.size w ba ys) := hI
  have HN : Hid (Ins w.heap.size w bb ns) := hN
  have hX : Bx (w.alloc (.cells #[.int .i64 i0, .int .i64 i1, .string s, .int .i64 i3, .int .i64 i4, .int .i64 i5, .slice ca nc cc, .int .i64 i7, .int .i64 i8, .slice ba ys.length bc] 25)) w.heap.size #[.int .i64 i0, .int .i64 i1, .string s, .int .i64 i3, .int .i64 i4, .int .i64 i5, .slice ca nc cc, .int .i64 i7, .int .i64 i8, .slice ba ys.length bc] 25 := Bx.new w _ _
  have HB : Hid (Below w.heap.size w (w.alloc (.cells #[.int .i64 i0, .int .i64 i1, .string s, .int .i64 i3, .int .i64 i4, .int .i64 i5, .slice ca nc cc, .int .i64 i7, .int .i64 i8, .slice ba ys.length bc] 25))) := below_a w _
  have H38 : Hid (∀ n z, ys.contains n = z → Calls Try.prog 38 #[.slice ba ys.length bc, .int .i64 n] (w.alloc (.cells #[.int .i64 i0, .int .i64 i1, .string s, .int .i64 i3, .int .i64 i4, .int .i64 i5, .slice ca nc cc, .int .i64 i7, .int .i64 i8, .slice ba ys.length bc] 25)) (BP z (w.alloc (.cells #[.int .i64 i0, .int .i64 i1, .string s, .int .i64 i3, .int .i64 i4, .int .i64 i5, .slice ca nc cc, .int .i64 i7, .int .i64 i8, .slice ba ys.length bc] 25)))) := fun n z hz => xcontainsB ys ba bc n _ ((HI.out.keep HB.out).mono HB.out.size) (by omega) z hz
  have HN2 : Hid (Ins w.heap.size (w.alloc (.cells #[.int .i64 i0, .int .i64 i1, .string s, .int .i64 i3, .int .i64 i4, .int .i64 i5, .slice ca nc cc, .int .i64 i7, .int .i64 i8, .slice ba ys.length bc] 25)) bb ns) := HN.out.keep HB.out
  have HC : Hid (∀ k, k < 10 → (w.alloc (.cells #[.int .i64 i0, .int .i64 i1, .string s, .int .i64 i3, .int .i64 i4, .int .i64 i5, .slice ca nc cc, .int .i64 i7, .int .i64 i8, .slice ba ys.length bc] 25)).cell? ⟨w.heap.size, k, none⟩ = (#[.int .i64 i0, .int .i64 i1, .string s, .int .i64 i3, .int .i64 i4, .int .i64 i5, .slice ca nc cc, .int .i64 i7, .int .i64 i8, .slice ba ys.length bc] : Array Value)[k]?) := fun k _ => hX.cell k
  clear hg hI hN hX HI HN
  go_enter Try.func39, Try.ntmps39
  go_wp2_with fail
  generalize w.alloc (.cells #[.int .i64 i0, .int .i64 i1, .string s, .int .i64 i3, .int .i64 i4, .int .i64 i5, .slice ca nc cc, .int .i64 i7, .int .i64 i8, .slice ba ys.length bc] 25) = w0 at *
  have c9 : w0.cell? ⟨w.heap.size, 9, none⟩ = some (.slice ba ys.length bc) := HC.out 9 (by omega)
  clear HC
  go_loopw [9] (fun i wr => ∃ (k : Nat), i = .int .i64 k ∧ k ≤ ns.length ∧ Hid ((ns.drop k).all (fun n => ys.contains n) = g) ∧ wr = w0) (fun i _ => ns.length - (Lib.intOf i).toNat)
  case atStart => exact ⟨0, rfl, Nat.zero_le _, HG, rfl⟩
  case round =>
    clear HG
    obtain ⟨k, rfl, hk, HK, rfl⟩ := hrel
    by_cases hkn : k < ns.length
    · have hkz : (k : Int) < (ns.length : Int) := by omega
      obtain ⟨b, off, rfl, hbl, hce⟩ := HN2.out (by omega)
      have hc1 := hce k hkn
      have HK2 : Hid ((ys.contains ns[k] && (ns.drop (k + 1)).all (fun n => ys.contains n)) = g) := by unfold Hid; rw [← HK.out, all_at hkn]
      clear HK hce HN2
      generalize ns[k] = x at *
      cases e1 : ys.contains x with
      | true =>
        have HK3 : Hid ((ns.drop (k + 1)).all (fun n => ys.contains n) = g) := by have := HK2.out; rw [e1] at this; exact this
        have H : Hid (Calls Try.prog 38 #[.slice ba ys.length bc, .int .i64 x] wr (BP true wr)) := H38.out x true e1
        clear HK2 H38 e1
        go_wp2_with (go_at_call 38; refine H.out.mono ?_; rintro e w2 ⟨rfl, rfl⟩)
        exact ⟨⟨k + 1, by go_num, by omega, HK3, trivial⟩, by simp [Lib.intOf]; omega⟩
      | false =>
        have HK3 : Hid (false = g) := by have := HK2.out; rw [e1] at this; exact this
        have H : Hid (Calls Try.prog 38 #[.slice ba ys.length bc, .int .i64 x] wr (BP false wr)) := H38.out x false e1
        clear HK2 H38 e1
        go_wp2_with (go_at_call 38; refine H.out.mono ?_; rintro e w2 ⟨rfl, rfl⟩)
        go_ret
        exact KP.mk (congrArg Value.bool HK3.out) HB.out
    · have hkz : ¬ (k : Int) < (ns.length : Int) := by omega
      have HK3 : Hid (true = g) := by have := HK.out; rw [List.drop_of_length_le (by omega)] at this; exact this
      go_wp2_with fail
      go_ret
      exact KP.mk (congrArg Value.bool HK3.out) HB.out
theorem wi_f {c : Bool} {a b d : Bool} : (c && (a && (b && (d && false)))) = false := by cases c <;> cases a <;> cases b <;> cases d <;> rfl
set_option maxHeartbeats 8000000 in
theorem rwithin0 (i0 i1 i3 i4 i5 i7 i8 j0 j1 j3 j4 j5 j7 j8 : Int) (s t : ByteArray) (ca ba cb bb : Option Addr) (nc cc bc nd cd bd : Nat) (ys ns : List Int) (w : World) (hI : Ins w.heap.size w ba ys) (hN : Ins w.heap.size w bb ns) (hly : ys.length ≤ 1000000) (hln : ns.length ≤ 1000000) (h4 : 0 ≤ i4) (h4b : 0 ≤ j4) (z : Bool) (hz : ns.all (fun n => ys.contains n) = z) (c : Bool) (hc : (s.toList == t.toList) = c) (g : Bool) (hg : (c && (decide (i3 ≤ j3) && (decide (max j4 1 ≤ max i4 1) && (decide (i5 ≤ j5) && z)))) = g) : Calls Try.prog 14 #[.agg #[.int .i64 i0, .int .i64 i1, .string s, .int .i64 i3, .int .i64 i4, .int .i64 i5, .slice ca nc cc, .int .i64 i7, .int .i64 i8, .slice ba ys.length bc], .agg #[.int .i64 j0, .int .i64 j1, .string t, .int .i64 j3, .int .i64 j4, .int .i64 j5, .slice cb nd cd, .int .i64 j7, .int .i64 j8, .slice bb ns.length bd]] w (KP (.bool g) w) := by
  have HG : Hid ((c && (decide (i3 ≤ j3) && (decide (max j4 1 ≤ max i4 1) && (decide (i5 ≤ j5) && z)))) = g) := hg
  have HZ : Hid ((ns.drop 0).all (fun n => ys.contains n) = z) := hz
  have HX : Hid (Bx ((w.alloc (.cells #[.int .i64 i0, .int .i64 i1, .string s, .int .i64 i3, .int .i64 i4, .int .i64 i5, .slice ca nc cc, .int .i64 i7, .int .i64 i8, .slice ba ys.length bc] 25)).alloc (.cells #[.int .i64 j0, .int .i64 j1, .string t, .int .i64 j3, .int .i64 j4, .int .i64 j5, .slice cb nd cd, .int .i64 j7, .int .i64 j8, .slice bb ns.length bd] 25)) w.heap.size #[.int .i64 i0, .int .i64 i1, .string s, .int .i64 i3, .int .i64 i4, .int .i64 i5, .slice ca nc cc, .int .i64 i7, .int .i64 i8, .slice ba ys.length bc] 25) := (Bx.new w _ _).kept (World.grownBy_alloc _ _ none) (by simp)
  have HY : Hid (Bx ((w.alloc (.cells #[.int .i64 i0, .int .i64 i1, .string s, .int .i64 i3, .int .i64 i4, .int .i64 i5, .slice ca nc cc, .int .i64 i7, .int .i64 i8, .slice ba ys.length bc] 25)).alloc (.cells #[.int .i64 j0, .int .i64 j1, .string t, .int .i64 j3, .int .i64 j4, .int .i64 j5, .slice cb nd cd, .int .i64 j7, .int .i64 j8, .slice bb ns.length bd] 25)) (w.heap.size + 1) #[.int .i64 j0, .int .i64 j1, .string t, .int .i64 j3, .int .i64 j4, .int .i64 j5, .slice cb nd cd, .int .i64 j7, .int .i64 j8, .slice bb ns.length bd] 25) := by
    have := Bx.new (w.alloc (.cells #[.int .i64 i0, .int .i64 i1, .string s, .int .i64 i3, .int .i64 i4, .int .i64 i5, .slice ca nc cc, .int .i64 i7, .int .i64 i8, .slice ba ys.length bc] 25)) #[.int .i64 j0, .int .i64 j1, .string t, .int .i64 j3, .int .i64 j4, .int .i64 j5, .slice cb nd cd, .int .i64 j7, .int .i64 j8, .slice bb ns.length bd] 25
    rw [World.size_alloc] at this
    exact this
  have HB : Hid (Below w.heap.size w ((w.alloc (.cells #[.int .i64 i0, .int .i64 i1, .string s, .int .i64 i3, .int .i64 i4, .int .i64 i5, .slice ca nc cc, .int .i64 i7, .int .i64 i8, .slice ba ys.length bc] 25)).alloc (.cells #[.int .i64 j0, .int .i64 j1, .string t, .int .i64 j3, .int .i64 j4, .int .i64 j5, .slice cb nd cd, .int .i64 j7, .int .i64 j8, .slice bb ns.length bd] 25))) := ((Below.refl _ w).alloc (Nat.le_refl _) _).alloc (by simp) _
  have HI : Hid (Ins w.heap.size w ba ys) := hI
  have HN : Hid (Ins w.heap.size w bb ns) := hN
  clear hg hI hN hz
  go_enter Try.func14, Try.ntmps14
  go_wp2_with fail
  generalize ((w.alloc (.cells #[.int .i64 i0, .int .i64 i1, .string s, .int .i64 i3, .int .i64 i4, .int .i64 i5, .slice ca nc cc, .int .i64 i7, .int .i64 i8, .slice ba ys.length bc] 25)).alloc (.cells #[.int .i64 j0, .int .i64 j1, .string t, .int .i64 j3, .int .i64 j4, .int .i64 j5, .slice cb nd cd, .int .i64 j7, .int .i64 j8, .slice bb ns.length bd] 25)) = w0 at *
  have c4 : w0.cell? ⟨w.heap.size, 4, none⟩ = some (.int .i64 i4) := HX.out.cell 4
  have d4 : w0.cell? ⟨w.heap.size + 1, 4, none⟩ = some (.int .i64 j4) := HY.out.cell 4
  go_quiet (fail)
  have HB1 : Hid (∀ k, Below w.heap.size w (w0.drewN k)) := fun k => bdrew HB.out k
  have HX1 : Hid (∀ k, Bx (w0.drewN k) w.heap.size #[.int .i64 i0, .int .i64 i1, .string s, .int .i64 i3, .int .i64 i4, .int .i64 i5, .slice ca nc cc, .int .i64 i7, .int .i64 i8, .slice ba ys.length bc] 25) := fun k => HX.out
  have HY1 : Hid (∀ k, Bx (w0.drewN k) (w.heap.size + 1) #[.int .i64 j0, .int .i64 j1, .string t, .int .i64 j3, .int .i64 j4, .int .i64 j5, .slice cb nd cd, .int .i64 j7, .int .i64 j8, .slice bb ns.length bd] 25) := fun k => HY.out
  clear c4 d4
  clear HX HY HB
  obtain ⟨w1, hw1⟩ : ∃ w1, w1 = w0.drewN nq := ⟨_, rfl⟩
  rw [← hw1]
  have HB2 : Hid (Below w.heap.size w w1) := by rw [hw1]; exact HB1.out _
  have HX2 : Hid (Bx w1 w.heap.size #[.int .i64 i0, .int .i64 i1, .string s, .int .i64 i3, .int .i64 i4, .int .i64 i5, .slice ca nc cc, .int .i64 i7, .int .i64 i8, .slice ba ys.length bc] 25) := by rw [hw1]; exact HX1.out _
  have HY2 : Hid (Bx w1 (w.heap.size + 1) #[.int .i64 j0, .int .i64 j1, .string t, .int .i64 j3, .int .i64 j4, .int .i64 j5, .slice cb nd cd, .int .i64 j7, .int .i64 j8, .slice bb ns.length bd] 25) := by rw [hw1]; exact HY1.out _
  have H35 : Hid (∀ W n z, Below w.heap.size w W → ys.contains n = z → Calls Try.prog 35 #[.slice ba ys.length bc, .int .i64 n] W fun e w' => e = .returned (.bool z) ∧ w' = W) := fun W n z hW hz => (rhasB ys ba bc n W ((HI.out.keep hW).mono hW.size) (by omega) z hz).mono fun _ _ h => ⟨h.1, h.2.symm⟩
  clear hw1 HB1 HX1 HY1 HI
  have HL : Hid (∀ (u v : Int), max i4 1 = u → max j4 1 = v → (c && (decide (i3 ≤ j3) && (decide (v ≤ u) && (decide (i5 ≤ j5) && z)))) = g) := fun u v hu hv => by rw [← hu, ← hv]; exact HG.out
  clear HG
  by_cases e4 : i4 = 0
  · by_cases e5 : j4 = 0
    · subst e4 e5
      obtain HG := HL.out (1 : Int) (1 : Int) (by omega) (by omega)
      have HG : Hid ((c && (decide (i3 ≤ j3) && (decide ((1 : Int) ≤ (1 : Int)) && (decide (i5 ≤ j5) && z)))) = g) := HG
      clear HL
      go_wp2_with fail
      go_loopw [7] (fun i wr => ∃ (k : Nat), i = .int .i64 k ∧ k ≤ ns.length ∧ Hid ((ns.drop k).all (fun n => ys.contains n) = z) ∧ Hid (Below w1.heap.size w1 wr)) (fun i _ => ns.length - (Lib.intOf i).toNat)
      case atStart => exact ⟨0, rfl, Nat.zero_le _, HZ, Below.refl _ _⟩
      case round =>
        clear HZ
        obtain ⟨k, rfl, hk, HK, HR⟩ := hrel
        have c9 : wr.cell? ⟨w.heap.size, 9, none⟩ = some (.slice ba ys.length bc) := (HX2.out.keep HR.out).cell 9
        have d9 : wr.cell? ⟨w.heap.size + 1, 9, none⟩ = some (.slice bb ns.length bd) := (HY2.out.keep HR.out).cell 9
        have HBr : Hid (Below w.heap.size w wr) := HB2.out.trans (HR.out.mono HB2.out.size)
        by_cases hkn : k < ns.length
        · have hkz : (k : Int) < (ns.length : Int) := by omega
          obtain ⟨b, off, rfl, hbl, hce⟩ := HN.out (by omega)
          have hc1 : wr.cell? ⟨b, off + k, none⟩ = some (.int .i64 ns[k]) := (HBr.out.cell (by exact hbl)).trans (hce k hkn)
          have HK2 : Hid ((ys.contains ns[k] && (ns.drop (k + 1)).all (fun n => ys.contains n)) = z) := by unfold Hid; rw [← HK.out, all_at hkn]
          clear HK hce HN
          generalize ns[k] = x at *
          cases e1 : ys.contains x with
          | true =>
            have HK3 : Hid ((ns.drop (k + 1)).all (fun n => ys.contains n) = z) := by have := HK2.out; rw [e1] at this; exact this
            have H : Hid (∀ m, Calls Try.prog 35 #[.slice ba ys.length bc, .int .i64 x] (wr.drewN m) fun e w' => e = .returned (.bool true) ∧ w' = wr.drewN m) := fun m => H35.out _ x true (bdrew HBr.out m) e1
            clear HK2 H35 e1
            go_wp2_with fail
            go_quiet ((go_at_call 35; refine Calls.quiet_of_same (H.out _)))
            go_wp2_with fail
            exact ⟨⟨k + 1, by go_num, by omega, HK3, bdrew HR.out _⟩, by simp [Lib.intOf]; omega⟩
          | false =>
            have HK3 : Hid (false = g) := by have := HK2.out; have h2 := HG.out; rw [e1] at this; rw [← this] at h2; rw [← h2]; exact wi_f.symm
            have H : Hid (∀ m, Calls Try.prog 35 #[.slice ba ys.length bc, .int .i64 x] (wr.drewN m) fun e w' => e = .returned (.bool false) ∧ w' = wr.drewN m) := fun m => H35.out _ x false (bdrew HBr.out m) e1
            clear HK2 H35 e1
            go_wp2_with fail
            go_quiet ((go_at_call 35; refine Calls.quiet_of_same (H.out _)))
            go_wp2_with fail
            go_ret
            exact KP.mk (congrArg Value.bool HK3.out) (bdrew HBr.out _)
        · have hkz : ¬ (k : Int) < (ns.length : Int) := by omega
          have HK3 : Hid (true = z) := by have := HK.out; rw [List.drop_of_length_le (by omega)] at this; exact this
          have HG2 : Hid ((c && (decide (i3 ≤ j3) && (decide ((1 : Int) ≤ (1 : Int)) && decide (i5 ≤ j5)))) = g) := by have := HG.out; rw [← HK3.out, Bool.and_true] at this; exact this
          have q2 : wr.cell? ⟨w.heap.size, 2, none⟩ = some (.string s) := (HX2.out.keep HR.out).cell 2
          have q3 : wr.cell? ⟨w.heap.size, 3, none⟩ = some (.int .i64 i3) := (HX2.out.keep HR.out).cell 3
          have q5 : wr.cell? ⟨w.heap.size, 5, none⟩ = some (.int .i64 i5) := (HX2.out.keep HR.out).cell 5
          have p2 : wr.cell? ⟨w.heap.size + 1, 2, none⟩ = some (.string t) := (HY2.out.keep HR.out).cell 2
          have p3 : wr.cell? ⟨w.heap.size + 1, 3, none⟩ = some (.int .i64 j3) := (HY2.out.keep HR.out).cell 3
          have p5 : wr.cell? ⟨w.heap.size + 1, 5, none⟩ = some (.int .i64 j5) := (HY2.out.keep HR.out).cell 5
          clear HX2 HY2 HR HK HK3 HG
          cases c with
          | false =>
            have HG3 : Hid (false = g) := HG2.out
            go_wp2_with fail
            go_ret
            exact KP.mk (congrArg Value.bool HG3.out) HBr.out
          | true =>
            by_cases k3 : i3 ≤ j3
            · by_cases k4 : (1 : Int) ≤ (1 : Int)
              · have HG3 : Hid (decide (i5 ≤ j5) = g) := by have := HG2.out; rw [decide_eq_true k3, decide_eq_true k4] at this; exact this
                clear HG2
                go_wp2_with fail
                go_ret
                exact KP.mk (congrArg Value.bool HG3.out) HBr.out
              · exact absurd (by omega) k4
            · have HG3 : Hid (false = g) := by have := HG2.out; rw [decide_eq_false k3] at this; exact this
              clear HG2
              go_wp2_with fail
              go_ret
              exact KP.mk (congrArg Value.bool HG3.out) HBr.out
    · have e5b : (j4 == 0) = false := by simpa using e5
      subst e4
      obtain HG := HL.out (1 : Int) j4 (by omega) (by omega)
      have HG : Hid ((c && (decide (i3 ≤ j3) && (decide (j4 ≤ (1 : Int)) && (decide (i5 ≤ j5) && z)))) = g) := HG
      clear HL
      go_wp2_with fail
      go_loopw [7] (fun i wr => ∃ (k : Nat), i = .int .i64 k ∧ k ≤ ns.length ∧ Hid ((ns.drop k).all (fun n => ys.contains n) = z) ∧ Hid (Below w1.heap.size w1 wr)) (fun i _ => ns.length - (Lib.intOf i).toNat)
      case atStart => exact ⟨0, rfl, Nat.zero_le _, HZ, Below.refl _ _⟩
      case round =>
        clear HZ
        obtain ⟨k, rfl, hk, HK, HR⟩ := hrel
        have c9 : wr.cell? ⟨w.heap.size, 9, none⟩ = some (.slice ba ys.length bc) := (HX2.out.keep HR.out).cell 9
        have d9 : wr.cell? ⟨w.heap.size + 1, 9, none⟩ = some (.slice bb ns.length bd) := (HY2.out.keep HR.out).cell 9
        have HBr : Hid (Below w.heap.size w wr) := HB2.out.trans (HR.out.mono HB2.out.size)
        by_cases hkn : k < ns.length
        · have hkz : (k : Int) < (ns.length : Int) := by omega
          obtain ⟨b, off, rfl, hbl, hce⟩ := HN.out (by omega)
          have hc1 : wr.cell? ⟨b, off + k, none⟩ = some (.int .i64 ns[k]) := (HBr.out.cell (by exact hbl)).trans (hce k hkn)
          have HK2 : Hid ((ys.contains ns[k] && (ns.drop (k + 1)).all (fun n => ys.contains n)) = z) := by unfold Hid; rw [← HK.out, all_at hkn]
          clear HK hce HN
          generalize ns[k] = x at *
          cases e1 : ys.contains x with
          | true =>
            have HK3 : Hid ((ns.drop (k + 1)).all (fun n => ys.contains n) = z) := by have := HK2.out; rw [e1] at this; exact this
            have H : Hid (∀ m, Calls Try.prog 35 #[.slice ba ys.length bc, .int .i64 x] (wr.drewN m) fun e w' => e = .returned (.bool true) ∧ w' = wr.drewN m) := fun m => H35.out _ x true (bdrew HBr.out m) e1
            clear HK2 H35 e1
            go_wp2_with fail
            go_quiet ((go_at_call 35; refine Calls.quiet_of_same (H.out _)))
            go_wp2_with fail
            exact ⟨⟨k + 1, by go_num, by omega, HK3, bdrew HR.out _⟩, by simp [Lib.intOf]; omega⟩
          | false =>
            have HK3 : Hid (false = g) := by have := HK2.out; have h2 := HG.out; rw [e1] at this; rw [← this] at h2; rw [← h2]; exact wi_f.symm
            have H : Hid (∀ m, Calls Try.prog 35 #[.slice ba ys.length bc, .int .i64 x] (wr.drewN m) fun e w' => e = .returned (.bool false) ∧ w' = wr.drewN m) := fun m => H35.out _ x false (bdrew HBr.out m) e1
            clear HK2 H35 e1
            go_wp2_with fail
            go_quiet ((go_at_call 35; refine Calls.quiet_of_same (H.out _)))
            go_wp2_with fail
            go_ret
            exact KP.mk (congrArg Value.bool HK3.out) (bdrew HBr.out _)
        · have hkz : ¬ (k : Int) < (ns.length : Int) := by omega
          have HK3 : Hid (true = z) := by have := HK.out; rw [List.drop_of_length_le (by omega)] at this; exact this
          have HG2 : Hid ((c && (decide (i3 ≤ j3) && (decide (j4 ≤ (1 : Int)) && decide (i5 ≤ j5)))) = g) := by have := HG.out; rw [← HK3.out, Bool.and_true] at this; exact this
          have q2 : wr.cell? ⟨w.heap.size, 2, none⟩ = some (.string s) := (HX2.out.keep HR.out).cell 2
          have q3 : wr.cell? ⟨w.heap.size, 3, none⟩ = some (.int .i64 i3) := (HX2.out.keep HR.out).cell 3
          have q5 : wr.cell? ⟨w.heap.size, 5, none⟩ = some (.int .i64 i5) := (HX2.out.keep HR.out).cell 5
          have p2 : wr.cell? ⟨w.heap.size + 1, 2, none⟩ = some (.string t) := (HY2.out.keep HR.out).cell 2
          have p3 : wr.cell? ⟨w.heap.size + 1, 3, none⟩ = some (.int .i64 j3) := (HY2.out.keep HR.out).cell 3
          have p5 : wr.cell? ⟨w.heap.size + 1, 5, none⟩ = some (.int .i64 j5) := (HY2.out.keep HR.out).cell 5
          clear HX2 HY2 HR HK HK3 HG
          cases c with
          | false =>
            have HG3 : Hid (false = g) := HG2.out
            go_wp2_with fail
            go_ret
            exact KP.mk (congrArg Value.bool HG3.out) HBr.out
          | true =>
            by_cases k3 : i3 ≤ j3
            · by_cases k4 : j4 ≤ (1 : Int)
              · have HG3 : Hid (decide (i5 ≤ j5) = g) := by have := HG2.out; rw [decide_eq_true k3, decide_eq_true k4] at this; exact this
                clear HG2
                go_wp2_with fail
                go_ret
                exact KP.mk (congrArg Value.bool HG3.out) HBr.out
              · have HG3 : Hid (false = g) := by have := HG2.out; rw [decide_eq_true k3, decide_eq_false k4] at this; exact this
                clear HG2
                go_wp2_with fail
                go_ret
                exact KP.mk (congrArg Value.bool HG3.out) HBr.out
            · have HG3 : Hid (false = g) := by have := HG2.out; rw [decide_eq_false k3] at this; exact this
              clear HG2
              go_wp2_with fail
              go_ret
              exact KP.mk (congrArg Value.bool HG3.out) HBr.out
  · have e4b : (i4 == 0) = false := by simpa using e4
    by_cases e5 : j4 = 0
    · subst e5
      obtain HG := HL.out i4 (1 : Int) (by omega) (by omega)
      have HG : Hid ((c && (decide (i3 ≤ j3) && (decide ((1 : Int) ≤ i4) && (decide (i5 ≤ j5) && z)))) = g) := HG
      clear HL
      go_wp2_with fail
      go_loopw [7] (fun i wr => ∃ (k : Nat), i = .int .i64 k ∧ k ≤ ns.length ∧ Hid ((ns.drop k).all (fun n => ys.contains n) = z) ∧ Hid (Below w1.heap.size w1 wr)) (fun i _ => ns.length - (Lib.intOf i).toNat)
      case atStart => exact ⟨0, rfl, Nat.zero_le _, HZ, Below.refl _ _⟩
      case round =>
        clear HZ
        obtain ⟨k, rfl, hk, HK, HR⟩ := hrel
        have c9 : wr.cell? ⟨w.heap.size, 9, none⟩ = some (.slice ba ys.length bc) := (HX2.out.keep HR.out).cell 9
        have d9 : wr.cell? ⟨w.heap.size + 1, 9, none⟩ = some (.slice bb ns.length bd) := (HY2.out.keep HR.out).cell 9
        have HBr : Hid (Below w.heap.size w wr) := HB2.out.trans (HR.out.mono HB2.out.size)
        by_cases hkn : k < ns.length
        · have hkz : (k : Int) < (ns.length : Int) := by omega
          obtain ⟨b, off, rfl, hbl, hce⟩ := HN.out (by omega)
          have hc1 : wr.cell? ⟨b, off + k, none⟩ = some (.int .i64 ns[k]) := (HBr.out.cell (by exact hbl)).trans (hce k hkn)
          have HK2 : Hid ((ys.contains ns[k] && (ns.drop (k + 1)).all (fun n => ys.contains n)) = z) := by unfold Hid; rw [← HK.out, all_at hkn]
          clear HK hce HN
          generalize ns[k] = x at *
          cases e1 : ys.contains x with
          | true =>
            have HK3 : Hid ((ns.drop (k + 1)).all (fun n => ys.contains n) = z) := by have := HK2.out; rw [e1] at this; exact this
            have H : Hid (∀ m, Calls Try.prog 35 #[.slice ba ys.length bc, .int .i64 x] (wr.drewN m) fun e w' => e = .returned (.bool true) ∧ w' = wr.drewN m) := fun m => H35.out _ x true (bdrew HBr.out m) e1
            clear HK2 H35 e1
            go_wp2_with fail
            go_quiet ((go_at_call 35; refine Calls.quiet_of_same (H.out _)))
            go_wp2_with fail
            exact ⟨⟨k + 1, by go_num, by omega, HK3, bdrew HR.out _⟩, by simp [Lib.intOf]; omega⟩
          | false =>
            have HK3 : Hid (false = g) := by have := HK2.out; have h2 := HG.out; rw [e1] at this; rw [← this] at h2; rw [← h2]; exact wi_f.symm
            have H : Hid (∀ m, Calls Try.prog 35 #[.slice ba ys.length bc, .int .i64 x] (wr.drewN m) fun e w' => e = .returned (.bool false) ∧ w' = wr.drewN m) := fun m => H35.out _ x false (bdrew HBr.out m) e1
            clear HK2 H35 e1
            go_wp2_with fail
            go_quiet ((go_at_call 35; refine Calls.quiet_of_same (H.out _)))
            go_wp2_with fail
            go_ret
            exact KP.mk (congrArg Value.bool HK3.out) (bdrew HBr.out _)
        · have hkz : ¬ (k : Int) < (ns.length : Int) := by omega
          have HK3 : Hid (true = z) := by have := HK.out; rw [List.drop_of_length_le (by omega)] at this; exact this
          have HG2 : Hid ((c && (decide (i3 ≤ j3) && (decide ((1 : Int) ≤ i4) && decide (i5 ≤ j5)))) = g) := by have := HG.out; rw [← HK3.out, Bool.and_true] at this; exact this
          have q2 : wr.cell? ⟨w.heap.size, 2, none⟩ = some (.string s) := (HX2.out.keep HR.out).cell 2
          have q3 : wr.cell? ⟨w.heap.size, 3, none⟩ = some (.int .i64 i3) := (HX2.out.keep HR.out).cell 3
          have q5 : wr.cell? ⟨w.heap.size, 5, none⟩ = some (.int .i64 i5) := (HX2.out.keep HR.out).cell 5
          have p2 : wr.cell? ⟨w.heap.size + 1, 2, none⟩ = some (.string t) := (HY2.out.keep HR.out).cell 2
          have p3 : wr.cell? ⟨w.heap.size + 1, 3, none⟩ = some (.int .i64 j3) := (HY2.out.keep HR.out).cell 3
          have p5 : wr.cell? ⟨w.heap.size + 1, 5, none⟩ = some (.int .i64 j5) := (HY2.out.keep HR.out).cell 5
          clear HX2 HY2 HR HK HK3 HG
          cases c with
          | false =>
            have HG3 : Hid (false = g) := HG2.out
            go_wp2_with fail
            go_ret
            exact KP.mk (congrArg Value.bool HG3.out) HBr.out
          | true =>
            by_cases k3 : i3 ≤ j3
            · by_cases k4 : (1 : Int) ≤ i4
              · have HG3 : Hid (decide (i5 ≤ j5) = g) := by have := HG2.out; rw [decide_eq_true k3, decide_eq_true k4] at this; exact this
                clear HG2
                go_wp2_with fail
                go_ret
                exact KP.mk (congrArg Value.bool HG3.out) HBr.out
              · exact absurd (by omega) k4
            · have HG3 : Hid (false = g) := by have := HG2.out; rw [decide_eq_false k3] at this; exact this
              clear HG2
              go_wp2_with fail
              go_ret
              exact KP.mk (congrArg Value.bool HG3.out) HBr.out
    · have e5b : (j4 == 0) = false := by simpa using e5
      obtain HG := HL.out i4 j4 (by omega) (by omega)
      have HG : Hid ((c && (decide (i3 ≤ j3) && (decide (j4 ≤ i4) && (decide (i5 ≤ j5) && z)))) = g) := HG
      clear HL
      go_wp2_with fail
      go_loopw [7] (fun i wr => ∃ (k : Nat), i = .int .i64 k ∧ k ≤ ns.length ∧ Hid ((ns.drop k).all (fun n => ys.contains n) = z) ∧ Hid (Below w1.heap.size w1 wr)) (fun i _ => ns.length - (Lib.intOf i).toNat)
      case atStart => exact ⟨0, rfl, Nat.zero_le _, HZ, Below.refl _ _⟩
      case round =>
        clear HZ
        obtain ⟨k, rfl, hk, HK, HR⟩ := hrel
        have c9 : wr.cell? ⟨w.heap.size, 9, none⟩ = some (.slice ba ys.length bc) := (HX2.out.keep HR.out).cell 9
        have d9 : wr.cell? ⟨w.heap.size + 1, 9, none⟩ = some (.slice bb ns.length bd) := (HY2.out.keep HR.out).cell 9
        have HBr : Hid (Below w.heap.size w wr) := HB2.out.trans (HR.out.mono HB2.out.size)
        by_cases hkn : k < ns.length
        · have hkz : (k : Int) < (ns.length : Int) := by omega
          obtain ⟨b, off, rfl, hbl, hce⟩ := HN.out (by omega)
          have hc1 : wr.cell? ⟨b, off + k, none⟩ = some (.int .i64 ns[k]) := (HBr.out.cell (by exact hbl)).trans (hce k hkn)
          have HK2 : Hid ((ys.contains ns[k] && (ns.drop (k + 1)).all (fun n => ys.contains n)) = z) := by unfold Hid; rw [← HK.out, all_at hkn]
          clear HK hce HN
          generalize ns[k] = x at *
          cases e1 : ys.contains x with
          | true =>
            have HK3 : Hid ((ns.drop (k + 1)).all (fun n => ys.contains n) = z) := by have := HK2.out; rw [e1] at this; exact this
            have H : Hid (∀ m, Calls Try.prog 35 #[.slice ba ys.length bc, .int .i64 x] (wr.drewN m) fun e w' => e = .returned (.bool true) ∧ w' = wr.drewN m) := fun m => H35.out _ x true (bdrew HBr.out m) e1
            clear HK2 H35 e1
            go_wp2_with fail
            go_quiet ((go_at_call 35; refine Calls.quiet_of_same (H.out _)))
            go_wp2_with fail
            exact ⟨⟨k + 1, by go_num, by omega, HK3, bdrew HR.out _⟩, by simp [Lib.intOf]; omega⟩
          | false =>
            have HK3 : Hid (false = g) := by have := HK2.out; have h2 := HG.out; rw [e1] at this; rw [← this] at h2; rw [← h2]; exact wi_f.symm
            have H : Hid (∀ m, Calls Try.prog 35 #[.slice ba ys.length bc, .int .i64 x] (wr.drewN m) fun e w' => e = .returned (.bool false) ∧ w' = wr.drewN m) := fun m => H35.out _ x false (bdrew HBr.out m) e1
            clear HK2 H35 e1
            go_wp2_with fail
            go_quiet ((go_at_call 35; refine Calls.quiet_of_same (H.out _)))
            go_wp2_with fail
            go_ret
            exact KP.mk (congrArg Value.bool HK3.out) (bdrew HBr.out _)
        · have hkz : ¬ (k : Int) < (ns.length : Int) := by omega
          have HK3 : Hid (true = z) := by have := HK.out; rw [List.drop_of_length_le (by omega)] at this; exact this
          have HG2 : Hid ((c && (decide (i3 ≤ j3) && (decide (j4 ≤ i4) && decide (i5 ≤ j5)))) = g) := by have := HG.out; rw [← HK3.out, Bool.and_true] at this; exact this
          have q2 : wr.cell? ⟨w.heap.size, 2, none⟩ = some (.string s) := (HX2.out.keep HR.out).cell 2
          have q3 : wr.cell? ⟨w.heap.size, 3, none⟩ = some (.int .i64 i3) := (HX2.out.keep HR.out).cell 3
          have q5 : wr.cell? ⟨w.heap.size, 5, none⟩ = some (.int .i64 i5) := (HX2.out.keep HR.out).cell 5
          have p2 : wr.cell? ⟨w.heap.size + 1, 2, none⟩ = some (.string t) := (HY2.out.keep HR.out).cell 2
          have p3 : wr.cell? ⟨w.heap.size + 1, 3, none⟩ = some (.int .i64 j3) := (HY2.out.keep HR.out).cell 3
          have p5 : wr.cell? ⟨w.heap.size + 1, 5, none⟩ = some (.int .i64 j5) := (HY2.out.keep HR.out).cell 5
          clear HX2 HY2 HR HK HK3 HG
          cases c with
          | false =>
            have HG3 : Hid (false = g) := HG2.out
            go_wp2_with fail
            go_ret
            exact KP.mk (congrArg Value.bool HG3.out) HBr.out
          | true =>
            by_cases k3 : i3 ≤ j3
            · by_cases k4 : j4 ≤ i4
              · have HG3 : Hid (decide (i5 ≤ j5) = g) := by have := HG2.out; rw [decide_eq_true k3, decide_eq_true k4] at this; exact this
                clear HG2
                go_wp2_with fail
                go_ret
                exact KP.mk (congrArg Value.bool HG3.out) HBr.out
              · have HG3 : Hid (false = g) := by have := HG2.out; rw [decide_eq_true k3, decide_eq_false k4] at this; exact this
                clear HG2
                go_wp2_with fail
                go_ret
                exact KP.mk (congrArg Value.bool HG3.out) HBr.out
            · have HG3 : Hid (false = g) := by have := HG2.out; rw [decide_eq_false k3] at this; exact this
              clear HG2
              go_wp2_with fail
              go_ret
              exact KP.mk (congrArg Value.bool HG3.out) HBr.out
theorem rwithin (x y : Bm) (w : World) (hx : Ha w.heap.size w x) (hy : Ha w.heap.size w y) (hlx : x.b.bar.length ≤ 1000000) (hly : y.b.bar.length ≤ 1000000) (h4 : 0 ≤ x.b.least) (h4b : 0 ≤ y.b.least) : Calls Try.prog 14 #[.agg (bcs x).toArray, .agg (bcs y).toArray] w (KP (.bool (wi x.b y.b)) w) :=
  rwithin0 x.b.id x.b.ver x.b.rat x.b.least x.b.most x.b.iss x.b.ass y.b.id y.b.ver y.b.rat y.b.least y.b.most y.b.iss y.b.ass ⟨x.b.cur.toArray⟩ ⟨y.b.cur.toArray⟩ x.ca x.ba y.ca y.ba x.b.cuts.length x.cc x.bc y.b.cuts.length y.cc y.bc x.b.bar y.b.bar w hx.2 hy.2 hlx hly h4 h4b _ rfl _ rfl _ (by rw [toL x.b.cur, toL y.b.cur]; rfl)
end Go.Proofs.Ytmjaijpikbdfkaa
