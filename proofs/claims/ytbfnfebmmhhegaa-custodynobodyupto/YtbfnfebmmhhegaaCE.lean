/- layer 12: Move -/
import Derived.Test.YtbfnfebmmhhegaaCD
import Derived.WalkKit
import Derived.ProofKit
import Derived.Handy
import Derived.WalkLawsBesides
import Derived.WalkSpells
import Derived.BigQuiet
import Derived.BigCall
import Derived.Deep.QuietTactic
import Derived.Deep.Light
import Derived.Deep.OwnRows
import Derived.Laws.AppendOwnNone
import Derived.Laws.Strings3
import Derived.Laws.RangeAny
import Derived.Deep.RegionWith
import Derived.Lib.BitFns
import Derived.Lib.Walk
import Derived.Lib.Strings
import Derived.Lib.OthersKept
import Derived.Deep.CutBlock
import Derived.Deep.DeepCutAuto
import Derived.Deep.LoopGhost
import Derived.Deep.RegionHeld3
import Derived.Lib.SmallJoins
import Derived.Maps.AppendAt
import Derived.Laws.IdiomStrings
import Derived.Lib.AppendZeros
import Derived.Deep.WholeRow
import Derived.Laws.BitsAllLaws
import Derived.Lib.ConvBytes
import Derived.Deep.RegionLaw
import Derived.Maps.OwnSet
import Derived.Maps.OwnOps
import Derived.Maps.RangeWalk
import Derived.Maps.Ext
import Derived.DeepKeys4
import Derived.Laws.StructEq
import Derived.Shelf.SlSortCmp.NoneTotal
import Derived.Deep.MidRow
import Derived.Laws.MakeOwn
namespace Go.Proofs.Ytbfnfebmmhhegaa
open Go.RowKit
set_option linter.unusedVariables false
set_option linter.unusedSimpArgs false
set_option maxRecDepth 20000
theorem info94 : (Try.prog.info? 94).map (fun i => (i.zero, i.size, i.bytes)) = some (some (.agg #[.int .i64 0, .int .i64 0, .string ⟨#[]⟩, .int .i64 0, .int .i64 0, .string ⟨#[]⟩, .int .i64 0]), 7, 72) := by kernel_rfl
theorem xentry' (x : Ln) (w : World) : Calls Try.prog 51 #[.agg x.cs] w fun e w' => e = .returned (.agg x.ex.cs) ∧ Below w.heap.size w w' := xentry x.f x.b x.t x.i x.s x.q w
/-- entries made, and none laid yet -/
theorem mk_made {w0 W : World} (hb : Below w0.heap.size w0 W) (n : Nat) (hn : n ≤ 1000000) (xs : List Ex) :
    (Instr.makeSlice 95 (.int .i64 (n : Int)) (.int .i64 (n : Int))).run Try.prog W = .ok (.slice (some ⟨W.heap.size, 0, none⟩) n n) (W.alloc (.cells (madeCells (Value.agg #[.int .i64 0, .int .i64 0, .string ⟨#[]⟩, .int .i64 0, .int .i64 0, .string ⟨#[]⟩, .int .i64 0]).cells (n * 7)) 94)) ∧ Mk w0 (W.alloc (.cells (madeCells (Value.agg #[.int .i64 0, .int .i64 0, .string ⟨#[]⟩, .int .i64 0, .int .i64 0, .string ⟨#[]⟩, .int .i64 0]).cells (n * 7)) 94)) W.heap.size n 0 xs := by
  obtain ⟨i0, hi, hz0, hz1, hz2⟩ := info_parts info94
  have h1 := run_make (P := Try.prog) W 95 94 i0 _ Try.underlying95 hi hz0 .i64 .i64 (n : Int) (n : Int) (by omega) (Int.le_refl _) (by rw [hz2]; omega) (by omega)
  rw [hz1] at h1
  refine ⟨by simpa using h1, ?_⟩
  generalize hz : (Value.agg #[.int .i64 0, .int .i64 0, .string ⟨#[]⟩, .int .i64 0, .int .i64 0, .string ⟨#[]⟩, .int .i64 0]).cells = Z
  have hX := Bx.new W (madeCells Z (n * 7)) 94
  refine ⟨fun j hj => ?_, fun i _ h => absurd h (Nat.not_lt_zero i), hb.alloc hb.size _, hb.size, by simp⟩
  rw [Nat.zero_add, hX.cell j, hX.froz j]
  refine ⟨?_, rfl⟩
  rw [Array.getElem?_eq_getElem (by rw [size_madeCells]; exact hj)]
  rfl
set_option maxHeartbeats 8000000 in
theorem xmv (c q m : Nat) (L : List Num.Bal) (g : Num.Good L) (hl : L.length ≤ 100000) (xs : List Ln) (hx : xs.length ≤ 4096) (a : Option Addr) (cap : Nat) (w : World) (h : Cu w c q m L) (he : Ls w a xs) :
    Calls Try.prog 27 #[.pointer (some ⟨c, 0, none⟩), .slice a xs.length cap] w (MvP c q m (mvL L xs) (mvN L xs) (mvE L xs) w) := by
  have HK : Hid (Calls Try.prog 41 #[.pointer (some ⟨c, 0, none⟩)] w fun e w' => e = .returned (.pointer (some ⟨q, 0, none⟩)) ∧ w = w') := xkept c q m L w h
  have HI : Hid (Calls Try.prog 49 #[.slice a xs.length cap, .func (.func 50) #[] #[]] w (IdP (fidx Ln.st xs) w)) := xidxL xs (by omega) a cap w he
  cases hf : xs.findIdx? Ln.st with
  | some k =>
    have hi : fidx Ln.st xs = (k : Int) := by unfold fidx; rw [hf]
    have HF : Hid (∀ w1, Below w.heap.size w w1 → MvP c q m (mvL L xs) (mvN L xs) (mvE L xs) w (.returned (.tuple #[.int .i64 (k : Int), .int .i64 22])) w1) := fun w1 hb => by
      unfold mvL mvN mvE
      rw [hf]
      exact ⟨rfl, h.below hb, grown_of_below hb _⟩
    rw [hi] at HI
    have HI' : Hid (Calls Try.prog 49 #[.slice a xs.length cap, .func (.func 50) #[] #[]] w fun e w1 => e = .returned (.int .i64 (k : Int)) ∧ Hid (Below w.heap.size w w1)) := HI
    have hk0 : (0 : Int) ≤ (k : Int) := by omega
    clear h he HI hi hf
    go_enter Try.func27, Try.ntmps27
    go_wp2_with (first | (go_at_call 41; refine HK.out.mono ?_; rintro e w1 ⟨rfl, rfl⟩) | (go_at_call 49; refine HI'.out.mono ?_; rintro e w1 ⟨rfl, HB⟩))
    go_returns
    exact HF.out _ HB.out
  | none =>
    have hi : fidx Ln.st xs = -1 := by unfold fidx; rw [hf]
    have HP : Hid (∀ W (v : Nat), Mk w W v xs.length xs.length (xs.map Ln.ex) → Calls Try.prog 48 #[.pointer (some ⟨q, 0, none⟩), .slice (some ⟨v, 0, none⟩) xs.length xs.length] W fun e w' => ∃ n s, e = .returned (.tuple #[.int .i64 n, .int .i64 s]) ∧ Hid (MvP c q m (mvL L xs) (mvN L xs) (mvE L xs) w (.returned (.tuple #[.int .i64 n, .int .i64 s])) w')) := fun W v hm => by
      have hlm : (xs.map Ln.ex).length = xs.length := by simp
      have hm' : Mk w W v xs.length (xs.map Ln.ex).length (xs.map Ln.ex) := by rw [hlm]; exact hm
      have hes := hm'.es (m := m) h.l.m.lt
      rw [hlm] at hes
      have hcW : Cu W c q m L := h.below hm.b
      refine (xpost q m L g hl (xs.map Ln.ex) (by simpa using hx) _ xs.length xs.length (Nat.le_refl _) W hcW.l hes).mono ?_
      rintro e w' ⟨rfl, k1, k2⟩
      refine ⟨_, _, rfl, ?_⟩
      unfold mvL mvN mvE
      rw [hf]
      rw [map_ent] at k1 ⊢
      exact ⟨rfl, hcW.post k1 k2, grown_trans (grown_of_below hm.b _) k2⟩
    have HMK : Hid (∀ W, Below w.heap.size w W → (Instr.makeSlice 95 (.int .i64 (xs.length : Int)) (.int .i64 (xs.length : Int))).run Try.prog W = .ok (.slice (some ⟨W.heap.size, 0, none⟩) xs.length xs.length) (W.alloc (.cells (madeCells (Value.agg #[.int .i64 0, .int .i64 0, .string ⟨#[]⟩, .int .i64 0, .int .i64 0, .string ⟨#[]⟩, .int .i64 0]).cells (xs.length * 7)) 94)) ∧ Hid (Mk w (W.alloc (.cells (madeCells (Value.agg #[.int .i64 0, .int .i64 0, .string ⟨#[]⟩, .int .i64 0, .int .i64 0, .string ⟨#[]⟩, .int .i64 0]).cells (xs.length * 7)) 94)) W.heap.size xs.length 0 (xs.map Ln.ex))) := fun W hb => mk_made hb xs.length (by omega) (xs.map Ln.ex)
    rw [hi] at HI
    have HI' : Hid (Calls Try.prog 49 #[.slice a xs.length cap, .func (.func 50) #[] #[]] w fun e w1 => e = .returned (.int .i64 (-1)) ∧ ∃ w2, (Instr.makeSlice 95 (.int .i64 (xs.length : Int)) (.int .i64 (xs.length : Int))).run Try.prog w1 = .ok (.slice (some ⟨w1.heap.size, 0, none⟩) xs.length xs.length) w2 ∧ Hid (Mk w w2 w1.heap.size xs.length 0 (xs.map Ln.ex))) := HI.out.mono fun e w1 k => ⟨k.1, _, (HMK.out w1 k.2).1, (HMK.out w1 k.2).2⟩
    have HE : Hid (Ls w a xs) := he
    have HCW : Hid (∀ W, Below w.heap.size w W → W.cell? ⟨c, 0, none⟩ = some (.pointer (some ⟨q, 0, none⟩))) := fun W hb => (h.below hb).b.cell 0
    have hx' : (xs.length : Int) ≤ 4096 := by omega
    clear h he HI hi hf HMK
    go_enter Try.func27, Try.ntmps27
    go_wp2_with (first | (go_at_call 41; refine HK.out.mono ?_; rintro e w1 ⟨rfl, rfl⟩) | (go_at_call 49; refine HI'.out.mono ?_; rintro e w1 ⟨rfl, w2, hmk, HM⟩))
    clear HI' HK
    generalize w1.heap.size = v at *
    clear hmk
    go_loopw [23] (fun i wr => ∃ k : Nat, k ≤ xs.length ∧ i = .int .i64 k ∧ Hid (Mk w wr v xs.length k (xs.map Ln.ex)))
      (fun i _ => xs.length - (intOf i).toNat)
    case atStart => exact ⟨0, Nat.zero_le _, rfl, HM.out⟩
    case round =>
      obtain ⟨k, hk, rfl, HR⟩ := hrel
      clear HM
      by_cases hkn : k < xs.length
      · have hkz : (k : Int) < (xs.length : Int) := by omega
        obtain ⟨blk, off, rfl, hbl, hcs⟩ := HE.out (by omega)
        have hc6 := hcs k hkn
        have HST : Hid (∀ W, Mk w W v xs.length k (xs.map Ln.ex) → (storeCells ⟨v, k * 7, none⟩ xs[k].ex.cs.toList).run Try.prog W = .ok () (W.setCells v (k * 7) xs[k].ex.cs.toList) ∧ Hid (Mk w (W.setCells v (k * 7) xs[k].ex.cs.toList) v xs.length (k + 1) (xs.map Ln.ex))) := fun W hW => by
          have h1 := hW.store hkn (by simpa using hkn)
          rw [List.getElem_map] at h1
          exact h1
        have hsz : xs[k].ex.cs.size = 7 := rfl
        have HEN : Hid (∀ W, Mk w W v xs.length k (xs.map Ln.ex) → Calls Try.prog 51 #[.agg xs[k].cs] W fun e w' => e = .returned (.agg xs[k].ex.cs) ∧ ∃ w2, (storeCells ⟨v, k * 7, none⟩ xs[k].ex.cs.toList).run Try.prog w' = .ok () w2 ∧ Hid (Mk w w2 v xs.length (k + 1) (xs.map Ln.ex))) := fun W hW => (xentry' xs[k] W).mono fun e w' hh => ⟨hh.1, _, (HST.out w' (hW.below hh.2)).1, (HST.out w' (hW.below hh.2)).2⟩
        obtain ⟨E, hE⟩ : ∃ E, E = xs[k].ex.cs := ⟨_, rfl⟩
        rw [← hE] at hsz HEN
        clear HST hE
        generalize xs[k] = x at *
        obtain ⟨f, b, t, i, s, q9⟩ := x
        have hcc (i : Nat) (h : i < 6) : wr.cell? ⟨blk, off + k * 6 + i, none⟩ = _ := (HR.out.b.cell (p := ⟨blk, off + k * 6 + i, none⟩) hbl).trans (hc6 i h)
        have c0 : wr.cell? ⟨blk, off + k * 6, none⟩ = some (.int .i64 f) := hcc 0 (by omega)
        have c1 : wr.cell? ⟨blk, off + k * 6 + 1, none⟩ = some (.int .i64 b) := hcc 1 (by omega)
        have c2 : wr.cell? ⟨blk, off + k * 6 + 2, none⟩ = some (.int .i64 t) := hcc 2 (by omega)
        have c3 : wr.cell? ⟨blk, off + k * 6 + 3, none⟩ = some (.int .i64 i) := hcc 3 (by omega)
        have c4 : wr.cell? ⟨blk, off + k * 6 + 4, none⟩ = some (.string s) := hcc 4 (by omega)
        have c5 : wr.cell? ⟨blk, off + k * 6 + 5, none⟩ = some (.int .i64 q9) := hcc 5 (by omega)
        have HEN' : Hid (∀ x, Calls Try.prog 51 #[.agg #[.int .i64 f, .int .i64 b, .int .i64 t, .int .i64 i, .string s, .int .i64 q9]] (wr.alloc x) fun e w' => e = .returned (.agg E) ∧ ∃ w2, (storeCells ⟨v, k * 7, none⟩ E.toList).run Try.prog w' = .ok () w2 ∧ Hid (Mk w w2 v xs.length (k + 1) (xs.map Ln.ex))) := fun x => HEN.out _ (HR.out.below ((Below.refl _ wr).alloc (Nat.le_refl _) x))
        clear hc6 hcs hcc HR HE HEN HP HCW
        go_wp2_with (go_at_call 51; refine (HEN'.out _).mono ?_; rintro e w4 ⟨rfl, w5, hst, HZ⟩)
        go_roundw
        case rel => exact ⟨k + 1, by omega, by simp, HZ.out⟩
        case measure => simp [intOf]; omega
      · have hkz : ¬ (k : Int) < (xs.length : Int) := by omega
        have HR2 : Hid (Mk w wr v xs.length xs.length (xs.map Ln.ex)) := by
          have e : k = xs.length := by omega
          have := HR.out
          rw [e] at this
          exact this
        have cq : wr.cell? ⟨c, 0, none⟩ = some (.pointer (some ⟨q, 0, none⟩)) := HCW.out wr HR2.out.b
        have HP2 : Hid (Calls Try.prog 48 #[.pointer (some ⟨q, 0, none⟩), .slice (some ⟨v, 0, none⟩) xs.length xs.length] wr fun e w' => ∃ n s, e = .returned (.tuple #[.int .i64 n, .int .i64 s]) ∧ Hid (MvP c q m (mvL L xs) (mvN L xs) (mvE L xs) w (.returned (.tuple #[.int .i64 n, .int .i64 s])) w')) := HP.out wr v HR2.out
        clear HP HR HE HR2 HCW
        go_wp2_with (go_at_call 48; refine HP2.out.mono ?_; rintro e w5 ⟨n5, s5, rfl, HZ⟩)
        go_returns
        exact HZ.out
end Go.Proofs.Ytbfnfebmmhhegaa
