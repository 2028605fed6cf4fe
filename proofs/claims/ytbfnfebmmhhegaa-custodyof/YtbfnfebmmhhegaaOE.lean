/- layer 12: books of balances; a clone -/
import Derived.Test.YtbfnfebmmhhegaaOC
import Derived.Test.YtbfnfebmmhhegaaCB
import Derived.Test.YtbfnfebmmhhegaaCL
import Derived.WalkKit
import Derived.ProofKit
import Derived.Handy
import Derived.WalkLawsBesides
import Derived.WalkSpells
import Derived.BigQuiet
import Derived.BigCall
import Derived.Deep.QuietTactic
import Derived.Deep.Light
import Derived.Deep.OwnRows
import Derived.Laws.AppendOwnNone
import Derived.Laws.Strings3
import Derived.Laws.RangeAny
import Derived.Deep.RegionWith
import Derived.Lib.BitFns
import Derived.Lib.Walk
import Derived.Lib.Strings
import Derived.Lib.OthersKept
import Derived.Deep.CutBlock
import Derived.Deep.DeepCutAuto
import Derived.Deep.LoopGhost
import Derived.Deep.RegionHeld3
import Derived.Lib.SmallJoins
import Derived.Maps.AppendAt
import Derived.Laws.IdiomStrings
import Derived.Lib.AppendZeros
import Derived.Deep.WholeRow
import Derived.Laws.BitsAllLaws
import Derived.Lib.ConvBytes
import Derived.Deep.RegionLaw
import Derived.Maps.OwnSet
import Derived.Maps.OwnOps
import Derived.Maps.RangeWalk
import Derived.Maps.Ext
import Derived.DeepKeys4
import Derived.Laws.StructEq
import Derived.Shelf.SlSortCmp.NoneTotal
import Derived.Deep.MidRow
import Derived.Laws.MakeOwn
import Derived.Sort.OwnSorted
import Derived.Lib.SlicesCompact
import Derived.Lib.RowBridge
namespace Go.Proofs.Ytbfnfebmmhhegaa
open Go.RowKit
set_option linter.unusedVariables false
set_option linter.unusedSimpArgs false
set_option maxRecDepth 20000
def stB (p : Num.Bal) : Bool := sty p.1.1 p.1.2.1
set_option maxHeartbeats 4000000 in
theorem xidxB (xs : List Num.Bal) (hl : xs.length ≤ 1000000) (a : Option Addr) (cap : Nat) (w : World) (h : Bs w a xs) : Calls Try.prog 66 #[.slice a xs.length cap, .func (.func 54) #[] #[]] w (IdP (fidx stB xs) w) := by
  have HE : Hid (Bs w a xs) := h
  clear h
  go_enter Try.func66, Try.ntmps66
  go_wp2_with fail
  go_loopw [8] (fun i wr => ∃ k : Nat, k ≤ xs.length ∧ i = .int .i64 k ∧ Hid ((∀ j (h : j < xs.length), j < k → stB xs[j] = false) ∧ Below w.heap.size w wr))
    (fun i _ => xs.length - (intOf i).toNat)
  case atStart => exact ⟨0, Nat.zero_le _, rfl, fun j _ h => absurd h (Nat.not_lt_zero j), Below.refl _ _⟩
  case round =>
    obtain ⟨k, hk, rfl, HR⟩ := hrel
    by_cases hkn : k < xs.length
    · have hkz : (k : Int) < (xs.length : Int) := by omega
      obtain ⟨blk, off, rfl, hbl, hcs⟩ := HE.out (by omega)
      have hc6 := hcs k hkn
      have HY : Hid (∀ w', Below w.heap.size w w' → stB xs[k] = true → IdP (fidx stB xs) w (.returned (.int .i64 k)) w') := fun w' hb hs => ⟨by unfold fidx; rw [fidx_some hkn (fun j hj => HR.out.1 j (by omega) hj) hs], hb⟩
      have HN : Hid (stB xs[k] = false → ∀ j (h : j < xs.length), j < k + 1 → stB xs[j] = false) := fun hs j hj hk1 => by
        rcases Nat.lt_or_ge j k with h1 | h1
        · exact HR.out.1 j hj h1
        · obtain rfl : j = k := by omega
          exact hs
      have HB : Hid (Below w.heap.size w wr) := HR.out.2
      generalize xs[k] = x at *
      obtain ⟨⟨o, b, t⟩, q⟩ := x
      obtain ⟨s, hs⟩ : ∃ s, s = S t := ⟨_, rfl⟩
      have hxs : bcs ((o, b, t), q) = [.int .i64 o, .int .i64 b, .string s, .int .i64 q] := by rw [hs]; rfl
      rw [hxs] at hc6
      have hcc (i : Nat) (h : i < 4) : wr.cell? ⟨blk, off + k * 4 + i, none⟩ = _ := (HB.out.cell (p := ⟨blk, off + k * 4 + i, none⟩) hbl).trans (hc6 i h)
      have c0 : wr.cell? ⟨blk, off + k * 4, none⟩ = some (.int .i64 o) := hcc 0 (by omega)
      have c1 : wr.cell? ⟨blk, off + k * 4 + 1, none⟩ = some (.int .i64 b) := hcc 1 (by omega)
      have c2 : wr.cell? ⟨blk, off + k * 4 + 2, none⟩ = some (.string s) := hcc 2 (by omega)
      have c3 : wr.cell? ⟨blk, off + k * 4 + 3, none⟩ = some (.int .i64 q) := hcc 3 (by omega)
      have HC : Hid (Calls Try.prog 54 #[.agg #[.int .i64 o, .int .i64 b, .string s, .int .i64 q]] wr fun e w' => e = .returned (.bool (stB ((o, b, t), q))) ∧ Hid (Below w.heap.size w w')) := (xstray o b s q wr).mono fun _ _ h => ⟨h.1, by rw [h.2]; exact (HB.out.alloc HB.out.size _).alloc (by have := HB.out.size; simp; omega) _⟩
      generalize stB ((o, b, t), q) = G at *
      clear hc6 hcs hcc HR HE hs hxs
      cases G
      · go_wp2_with (go_at_call 54; refine HC.out.mono ?_; rintro e w2 ⟨rfl, HB2⟩)
        go_roundw
        case rel => exact ⟨k + 1, by omega, by simp, HN.out (by simp), HB2.out⟩
        case measure => simp [intOf]; omega
      · go_wp2_with (go_at_call 54; refine HC.out.mono ?_; rintro e w2 ⟨rfl, HB2⟩)
        go_ret
        exact HY.out _ HB2.out (by simp)
    · have hkz : ¬ (k : Int) < (xs.length : Int) := by omega
      have HF : Hid (IdP (fidx stB xs) w (.returned (.int .i64 (-1))) wr) := ⟨by unfold fidx; rw [fidx_none (fun j hj => HR.out.1 j hj (by omega))], HR.out.2⟩
      go_wp2_with fail
      go_ret
      exact HF.out
theorem xcont (xs : List Num.Bal) (hl : xs.length ≤ 1000000) (a : Option Addr) (cap : Nat) (w : World) (h : Bs w a xs) : Calls Try.prog 53 #[.slice a xs.length cap, .func (.func 54) #[] #[]] w fun e w' => e = .returned (.bool (xs.findIdx? stB).isSome) ∧ Below w.heap.size w w' := by
  have HI : Hid (Calls Try.prog 66 #[.slice a xs.length cap, .func (.func 54) #[] #[]] w fun e w' => e = .returned (.int .i64 (fidx stB xs)) ∧ Below w.heap.size w w') := xidxB xs hl a cap w h
  cases hf : xs.findIdx? stB with
  | some k =>
    have hi : fidx stB xs = (k : Int) := by unfold fidx; rw [hf]
    have hk0 : (0 : Int) ≤ (k : Int) := by omega
    rw [hi] at HI
    clear hi hf h
    go_enter Try.func53, Try.ntmps53
    go_wp2_with (go_at_call 66; refine HI.out.mono ?_; rintro e w1 ⟨rfl, hb⟩)
    go_ret
    exact ⟨rfl, hb⟩
  | none =>
    have hi : fidx stB xs = -1 := by unfold fidx; rw [hf]
    rw [hi] at HI
    clear hi hf h
    go_enter Try.func53, Try.ntmps53
    go_wp2_with (go_at_call 66; refine HI.out.mono ?_; rintro e w1 ⟨rfl, hb⟩)
    go_ret
    exact ⟨rfl, hb⟩
theorem pre_or (L : List Num.Bal) : ∀ n, Num.Pre L n ∨ ∃ k, k < n ∧ Num.Pre L k ∧ Num.fltAt L k ≠ 0
  | 0 => .inl (Num.Pre.zero L)
  | n + 1 => by
    rcases pre_or L n with h | ⟨k, h1, h2, h3⟩
    · by_cases c : Num.fltAt L n = 0
      · exact .inl (h.succ c)
      · exact .inr ⟨n, by omega, h, c⟩
    · exact .inr ⟨k, by omega, h2, h3⟩
theorem of_ex (L : List Num.Bal) : ∃ e, Num.OfR L e := by
  rcases pre_or L L.length with h | ⟨k, h1, h2, h3⟩
  · exact ⟨_, .inr ⟨h, rfl⟩⟩
  · exact ⟨_, .inl ⟨k, h1, h2, rfl, h3⟩⟩
/-- what is wrong with books -/
def CoR (L : List Num.Bal) (e : Int) : Prop := if (L.findIdx? stB).isSome = true then e = 22 else Num.OfR L e
theorem CoR.det {L : List Num.Bal} {e e' : Int} (h : CoR L e) (k : CoR L e') : e = e' := by
  unfold CoR at h k
  split at h
  · rename_i c; rw [if_pos c] at k; omega
  · rename_i c; rw [if_neg c] at k; exact h.det k
def CoP (L : List Num.Bal) (w : World) (x : Ending) (w' : World) : Prop := ∃ e : Int, CoR L e ∧ Below w.heap.size w w' ∧ ((e ≠ 0 ∧ x = .returned (.tuple #[.pointer none, .int .i64 e])) ∨ (e = 0 ∧ ∃ c q m, x = .returned (.tuple #[.pointer (some ⟨c, 0, none⟩), .int .i64 0]) ∧ w.heap.size ≤ m ∧ Cu w' c q m L))
set_option maxHeartbeats 4000000 in
theorem xcof (L : List Num.Bal) (hl : L.length ≤ 100) (hsz : ∀ p ∈ L, p.1.2.2.length ≤ 281474976710656) (a : Option Addr) (cap : Nat) (w : World) (h : Bs w a L) : Calls Try.prog 31 #[.slice a L.length cap] w (CoP L w) := by
  have HC := xcont L (by omega) a cap w h
  cases hf : (L.findIdx? stB).isSome
  · rw [hf] at HC
    obtain ⟨eo, heo⟩ := of_ex L
    have hco : CoR L eo := by unfold CoR; rw [if_neg (by rw [hf]; decide)]; exact heo
    have HO : ∀ W, Below w.heap.size w W → Calls Try.prog 55 #[.slice a L.length cap] W (OfP L W) := fun W hW => xofl L hl hsz a cap W (h.below hW)
    have HC2 : Hid (Calls Try.prog 53 #[.slice a L.length cap, .func (.func 54) #[] #[]] w fun e w' => e = .returned (.bool false) ∧ Below w.heap.size w w') := HC
    by_cases he : eo = 0
    · have HO2 : Hid (∀ W, Below w.heap.size w W → Calls Try.prog 55 #[.slice a L.length cap] W fun x w5 => ∃ q : Nat, x = .returned (.tuple #[.pointer (some ⟨q, 0, none⟩), .int .i64 0]) ∧ Hid (CoP L w (.returned (.tuple #[.pointer (some ⟨w5.heap.size, 0, none⟩), .int .i64 0])) (w5.alloc (.cells #[.pointer (some ⟨q, 0, none⟩)] 78)))) := fun W hW => (HO W hW).mono fun x w5 hh => by
        obtain ⟨e, h1, h2, h3⟩ := hh
        obtain rfl := h1.det heo
        rcases h3 with ⟨h3, _⟩ | ⟨_, q, m, h4, h6, h7, h5⟩
        · exact absurd he h3
        · have hb5 : Below w.heap.size w w5 := hW.trans (h2.mono hW.size)
          exact ⟨q, h4, _, hco, hb5.alloc hb5.size _, .inr ⟨he, w5.heap.size, q, m, rfl, Nat.le_trans hW.size h7, Bx.new w5 _ _, h5.alloc _⟩⟩
      clear HC HO h hf hco heo he
      go_enter Try.func31, Try.ntmps31
      go_wp2_with (first | (go_at_call 53; refine HC2.out.mono ?_; rintro e w1 ⟨rfl, hb1⟩; clear HC2) | (go_at_call 55; refine (HO2.out _ hb1).mono ?_; rintro e w5 ⟨q5, rfl, HF⟩; clear HO2))
      go_returns
      exact HF.out
    · have he' : (eo != 0) = true := by simp [he]
      have HO2 : Hid (∀ W, Below w.heap.size w W → Calls Try.prog 55 #[.slice a L.length cap] W fun x w5 => x = .returned (.tuple #[.pointer none, .int .i64 eo]) ∧ Hid (CoP L w (.returned (.tuple #[.pointer none, .int .i64 eo])) w5)) := fun W hW => (HO W hW).mono fun x w5 hh => by
        obtain ⟨e, h1, h2, h3⟩ := hh
        obtain rfl := h1.det heo
        rcases h3 with ⟨_, h3⟩ | ⟨h3, _⟩
        · exact ⟨h3, _, hco, hW.trans (h2.mono hW.size), .inl ⟨he, rfl⟩⟩
        · exact absurd h3 he
      clear HC HO h hf hco heo he
      go_enter Try.func31, Try.ntmps31
      go_wp2_with (first | (go_at_call 53; refine HC2.out.mono ?_; rintro e w1 ⟨rfl, hb1⟩; clear HC2) | (go_at_call 55; refine (HO2.out _ hb1).mono ?_; rintro e w5 ⟨rfl, HF⟩; clear HO2))
      go_returns
      exact HF.out
  · rw [hf] at HC
    have HC2 : Hid (Calls Try.prog 53 #[.slice a L.length cap, .func (.func 54) #[] #[]] w fun e w' => e = .returned (.bool true) ∧ Hid (CoP L w (.returned (.tuple #[.pointer none, .int .i64 22])) w')) := HC.mono fun e w' kk => ⟨kk.1, 22, by unfold CoR; rw [if_pos hf], kk.2, .inl ⟨by decide, rfl⟩⟩
    clear HC h hf
    go_enter Try.func31, Try.ntmps31
    go_wp2_with (go_at_call 53; refine HC2.out.mono ?_; rintro e w1 ⟨rfl, HF⟩)
    go_returns
    exact HF.out
theorem xcclone (c q m : Nat) (L : List Num.Bal) (g : Num.Good L) (hl : L.length ≤ 1000000) (w : World) (h : Cu w c q m L) : Calls Try.prog 33 #[.pointer (some ⟨c, 0, none⟩)] w fun e w' => ∃ c' q' m', e = .returned (.pointer (some ⟨c', 0, none⟩)) ∧ Hid (w.heap.size ≤ q' ∧ w.heap.size ≤ m' ∧ w.heap.size ≤ c' ∧ Cu w' c' q' m' L ∧ Below w.heap.size w w') := by
  have HK : Hid (Calls Try.prog 41 #[.pointer (some ⟨c, 0, none⟩)] w fun e w' => e = .returned (.pointer (some ⟨q, 0, none⟩)) ∧ w = w') := xkept c q m L w h
  have c0 : w.cell? ⟨c, 0, none⟩ = some (.pointer (some ⟨q, 0, none⟩)) := h.b.cell 0
  have HC : Hid (Calls Try.prog 57 #[.pointer (some ⟨q, 0, none⟩)] w fun e w' => ∃ q' m', e = .returned (.pointer (some ⟨q', 0, none⟩)) ∧ Hid (w.heap.size ≤ q' ∧ w.heap.size ≤ m' ∧ w.heap.size ≤ w'.heap.size ∧ Cu (w'.alloc (.cells #[.pointer (some ⟨q', 0, none⟩)] 78)) w'.heap.size q' m' L ∧ Below w.heap.size w (w'.alloc (.cells #[.pointer (some ⟨q', 0, none⟩)] 78)))) := (xcln q m L g hl w h.l).mono fun e w' hh => by
    obtain ⟨q', m', h1, h2, h3, h4, h5⟩ := hh
    exact ⟨q', m', h1, h2, h3, h5.size, ⟨Bx.new w' _ _, h4.alloc _⟩, h5.alloc h5.size _⟩
  clear h
  go_enter Try.func33, Try.ntmps33
  go_wp2_with (first | (go_at_call 41; refine HK.out.mono ?_; rintro e w1 ⟨rfl, rfl⟩; clear HK) | (go_at_call 57; refine HC.out.mono ?_; rintro e w1 ⟨q1, m1, rfl, HZ⟩; clear HC))
  go_ret
  exact ⟨_, _, _, rfl, HZ.out⟩
end Go.Proofs.Ytbfnfebmmhhegaa
