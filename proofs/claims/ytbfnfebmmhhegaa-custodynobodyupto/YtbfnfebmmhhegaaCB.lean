/- layer 12: rows as they are read; the first line astray; new books -/
import Derived.Test.YtbfnfebmmhhegaaCA
import Derived.Test.YtbfnfebmmhhegaaN
import Derived.WalkKit
import Derived.ProofKit
import Derived.Handy
import Derived.WalkLawsBesides
import Derived.WalkSpells
import Derived.BigQuiet
import Derived.BigCall
import Derived.Deep.QuietTactic
import Derived.Deep.Light
import Derived.Deep.OwnRows
import Derived.Laws.AppendOwnNone
import Derived.Laws.Strings3
import Derived.Laws.RangeAny
import Derived.Deep.RegionWith
import Derived.Lib.BitFns
import Derived.Lib.Walk
import Derived.Lib.Strings
import Derived.Lib.OthersKept
import Derived.Deep.CutBlock
import Derived.Deep.DeepCutAuto
import Derived.Deep.LoopGhost
import Derived.Deep.RegionHeld3
import Derived.Lib.SmallJoins
import Derived.Maps.AppendAt
import Derived.Laws.IdiomStrings
import Derived.Lib.AppendZeros
import Derived.Deep.WholeRow
import Derived.Laws.BitsAllLaws
import Derived.Lib.ConvBytes
import Derived.Deep.RegionLaw
import Derived.Maps.OwnSet
import Derived.Maps.OwnOps
import Derived.Maps.RangeWalk
import Derived.Maps.Ext
import Derived.DeepKeys4
import Derived.Laws.StructEq
namespace Go.Proofs.Ytbfnfebmmhhegaa
open Go.RowKit
set_option linter.unusedVariables false
set_option linter.unusedSimpArgs false
set_option maxRecDepth 20000
/-- a row of structs of k cells each, as it is read -/
def Rw {α : Type} (k : Nat) (f : α → List Value) (w : World) (a : Option Addr) (xs : List α) : Prop := 0 < xs.length → ∃ blk off, a = some ⟨blk, off, none⟩ ∧ blk < w.heap.size ∧ ∀ i (h : i < xs.length), ∀ j, j < k → w.cell? ⟨blk, off + i * k + j, none⟩ = (f xs[i])[j]?
theorem Rw.below {α : Type} {k : Nat} {f : α → List Value} {w w' : World} {a : Option Addr} {xs : List α} (h : Rw k f w a xs) (hb : Below w.heap.size w w') : Rw k f w' a xs := by
  intro h0
  obtain ⟨blk, off, h1, h2, h3⟩ := h h0
  exact ⟨blk, off, h1, Nat.lt_of_lt_of_le h2 hb.size, fun i hi j hj => (hb.cell (p := ⟨blk, off + i * k + j, none⟩) h2).trans (h3 i hi j hj)⟩
theorem Rw.nil {α : Type} {k : Nat} {f : α → List Value} {w : World} {a : Option Addr} : Rw k f w a [] := fun h => absurd h (Nat.lt_irrefl 0)
def rcs {α : Type} (f : α → List Value) (xs : List α) : List Value := (xs.map f).flatten
theorem rcs_snoc {α : Type} (f : α → List Value) (xs : List α) (x : α) : rcs f (xs ++ [x]) = rcs f xs ++ f x := flat_snoc f xs x
theorem rcs_take {α : Type} (f : α → List Value) (xs : List α) {k : Nat} (h : k < xs.length) : rcs f (xs.take k) ++ f xs[k] = rcs f (xs.take (k + 1)) := by
  rw [← rcs_snoc, List.take_append_getElem h]
theorem own_rw {α : Type} {k : Nat} {f : α → List Value} (hf : ∀ x, (f x).length = k) {w : World} {B e n : Nat} {v : Value} {xs : List α} (h : w.ownsRow B e k v n (rcs f xs)) (hn : n = xs.length) : ∃ a cap, v = .slice a xs.length cap ∧ xs.length ≤ cap ∧ Rw k f w a xs := by
  subst hn
  obtain ⟨a, cap, hv, hc, hr⟩ := own_read h h.1
  refine ⟨a, cap, hv, hc, fun h0 => ?_⟩
  obtain ⟨g, hg, _, hgl, hcell⟩ := hr h0
  refine ⟨g, 0, hg, hgl, fun i hi j hj => ?_⟩
  have h1 := flat_at f k hf xs i hi j hj
  have h3 : j < (f xs[i]).length := by rw [hf]; exact hj
  rw [List.getElem?_eq_getElem h3] at h1 ⊢
  rw [Nat.zero_add]
  exact hcell _ _ h1
abbrev Ls := Rw 6 (fun x : Ln => x.cs.toList)
theorem Ln.len (x : Ln) : x.cs.toList.length = 6 := rfl
/-- the first that p holds of -/
def fidx {α : Type} (p : α → Bool) (xs : List α) : Int := match xs.findIdx? p with | some k => (k : Int) | none => -1
theorem fidx_some {α : Type} {p : α → Bool} {xs : List α} {k : Nat} (hk : k < xs.length) (h1 : ∀ j (h : j < k), p (xs[j]'(by omega)) = false) (h2 : p xs[k] = true) : xs.findIdx? p = some k := by
  rw [List.findIdx?_eq_some_iff_getElem]
  exact ⟨hk, h2, fun j hj => by simp [h1 j hj]⟩
theorem fidx_none {α : Type} {p : α → Bool} {xs : List α} (h : ∀ j (h : j < xs.length), p xs[j] = false) : xs.findIdx? p = none := by
  rw [List.findIdx?_eq_none_iff]
  intro x hx
  obtain ⟨i, hi, rfl⟩ := List.getElem_of_mem hx
  exact h i hi
def IdP (n : Int) (w : World) (e : Ending) (w' : World) : Prop := e = .returned (.int .i64 n) ∧ Below w.heap.size w w'
set_option maxHeartbeats 4000000 in
theorem xidxL (xs : List Ln) (hl : xs.length ≤ 1000000) (a : Option Addr) (cap : Nat) (w : World) (h : Ls w a xs) : Calls Try.prog 49 #[.slice a xs.length cap, .func (.func 50) #[] #[]] w (IdP (fidx Ln.st xs) w) := by
  have HE : Hid (Ls w a xs) := h
  clear h
  go_enter Try.func49, Try.ntmps49
  go_wp2_with fail
  go_loopw [8] (fun i wr => ∃ k : Nat, k ≤ xs.length ∧ i = .int .i64 k ∧ Hid ((∀ j (h : j < xs.length), j < k → Ln.st xs[j] = false) ∧ Below w.heap.size w wr))
    (fun i _ => xs.length - (intOf i).toNat)
  case atStart => exact ⟨0, Nat.zero_le _, rfl, fun j _ h => absurd h (Nat.not_lt_zero j), Below.refl _ _⟩
  case round =>
    obtain ⟨k, hk, rfl, HR⟩ := hrel
    by_cases hkn : k < xs.length
    · have hkz : (k : Int) < (xs.length : Int) := by omega
      obtain ⟨blk, off, rfl, hbl, hcs⟩ := HE.out (by omega)
      have hc6 := hcs k hkn
      have HY : Hid (∀ w', Below w.heap.size w w' → Ln.st xs[k] = true → IdP (fidx Ln.st xs) w (.returned (.int .i64 k)) w') := fun w' hb hs => ⟨by unfold fidx; rw [fidx_some hkn (fun j hj => HR.out.1 j (by omega) hj) hs], hb⟩
      have HN : Hid (Ln.st xs[k] = false → ∀ j (h : j < xs.length), j < k + 1 → Ln.st xs[j] = false) := fun hs j hj hk1 => by
        rcases Nat.lt_or_ge j k with h1 | h1
        · exact HR.out.1 j hj h1
        · obtain rfl : j = k := by omega
          exact hs
      have HB : Hid (Below w.heap.size w wr) := HR.out.2
      generalize xs[k] = x at *
      obtain ⟨f, b, t, i, s, q⟩ := x
      have hcc (i : Nat) (h : i < 6) : wr.cell? ⟨blk, off + k * 6 + i, none⟩ = _ := (HB.out.cell (p := ⟨blk, off + k * 6 + i, none⟩) hbl).trans (hc6 i h)
      have c0 : wr.cell? ⟨blk, off + k * 6, none⟩ = some (.int .i64 f) := hcc 0 (by omega)
      have c1 : wr.cell? ⟨blk, off + k * 6 + 1, none⟩ = some (.int .i64 b) := hcc 1 (by omega)
      have c2 : wr.cell? ⟨blk, off + k * 6 + 2, none⟩ = some (.int .i64 t) := hcc 2 (by omega)
      have c3 : wr.cell? ⟨blk, off + k * 6 + 3, none⟩ = some (.int .i64 i) := hcc 3 (by omega)
      have c4 : wr.cell? ⟨blk, off + k * 6 + 4, none⟩ = some (.string s) := hcc 4 (by omega)
      have c5 : wr.cell? ⟨blk, off + k * 6 + 5, none⟩ = some (.int .i64 q) := hcc 5 (by omega)
      have HC : Hid (Calls Try.prog 50 #[.agg #[.int .i64 f, .int .i64 b, .int .i64 t, .int .i64 i, .string s, .int .i64 q]] wr fun e w' => e = .returned (.bool (Ln.st ⟨f, b, t, i, s, q⟩)) ∧ Hid (Below w.heap.size w w')) := (xstrayL f b t i s q wr).mono fun _ _ h => ⟨h.1, by rw [h.2]; exact HB.out.alloc HB.out.size _⟩
      generalize Ln.st ⟨f, b, t, i, s, q⟩ = G at *
      clear hc6 hcs hcc HR HE
      cases G
      · go_wp2_with (go_at_call 50; refine HC.out.mono ?_; rintro e w2 ⟨rfl, HB2⟩)
        go_roundw
        case rel => exact ⟨k + 1, by omega, by simp, HN.out (by simp), HB2.out⟩
        case measure => simp [intOf]; omega
      · go_wp2_with (go_at_call 50; refine HC.out.mono ?_; rintro e w2 ⟨rfl, HB2⟩)
        go_ret
        exact HY.out _ HB2.out (by simp)
    · have hkz : ¬ (k : Int) < (xs.length : Int) := by omega
      have HF : Hid (IdP (fidx Ln.st xs) w (.returned (.int .i64 (-1))) wr) := ⟨by unfold fidx; rw [fidx_none (fun j hj => HR.out.1 j hj (by omega))], HR.out.2⟩
      go_wp2_with fail
      go_ret
      exact HF.out
theorem xcnew (w : World) : Calls Try.prog 9 #[] w fun e w' => ∃ c q m, e = .returned (.pointer (some ⟨c, 0, none⟩)) ∧ w.heap.size ≤ c ∧ w.heap.size ≤ q ∧ w.heap.size ≤ m ∧ Hid (Cu w' c q m [] ∧ Below w.heap.size w w') := by
  have HC : Hid (Calls Try.prog 35 #[] w fun e w1 => e = .returned (.pointer (some ⟨w.heap.size + 1, 0, none⟩)) ∧ Hid (w.heap.size ≤ w1.heap.size ∧ Cu (w1.alloc (.cells #[.pointer (some ⟨w.heap.size + 1, 0, none⟩)] 78)) w1.heap.size (w.heap.size + 1) w.heap.size [] ∧ Below w.heap.size w (w1.alloc (.cells #[.pointer (some ⟨w.heap.size + 1, 0, none⟩)] 78)))) := (xnew w).mono fun e w1 k => ⟨k.1, k.2.2.size, ⟨Bx.new w1 _ _, k.2.1.alloc _⟩, k.2.2.alloc k.2.2.size _⟩
  go_enter Try.func9, Try.ntmps9
  go_wp2_with (go_at_call 35; refine HC.out.mono ?_; rintro e w1 ⟨rfl, HZ⟩)
  go_ret
  exact ⟨_, _, _, rfl, HZ.out.1, by omega, Nat.le_refl _, HZ.out.2⟩
end Go.Proofs.Ytbfnfebmmhhegaa
