/- A writer in memory; add, Uint, Int. -/
import Derived.Test.YtdmlgheajblcdaaGreatK02
import Derived.WalkKit
import Derived.ProofKit
import Derived.Handy
import Derived.WalkLawsBesides
import Derived.WalkSpells
import Derived.BigQuiet
import Derived.BigCall
import Derived.Deep.QuietTactic
import Derived.Deep.Light
import Derived.Deep.OwnRows
import Derived.Laws.AppendOwnNone
import Derived.Laws.Strings3
import Derived.Laws.RangeAny
import Derived.Deep.RegionWith
import Derived.Lib.BitFns
import Derived.Lib.Walk
import Derived.Lib.Strings
import Derived.Lib.OthersKept
import Derived.Deep.CutBlock
import Derived.Deep.DeepCutAuto
import Derived.Deep.LoopGhost
import Derived.Deep.RegionHeld3
import Derived.Lib.SmallJoins
import Derived.Maps.AppendAt
import Derived.Laws.IdiomStrings
import Derived.Lib.AppendZeros
import Derived.Deep.WholeRow
import Derived.Laws.BitsAllLaws
import Derived.Lib.ConvBytes
import Derived.Deep.RegionLaw
namespace Go.Proofs.YtdmlgheajblcdaaGreat
open Go.RowKit
set_option linter.unusedVariables false
set_option linter.unusedSimpArgs false
/-- bytes that a slice has -/
def Src (w : World) (u : Value) (m : List UInt8) : Prop := (u = .slice none 0 0 ∧ m = []) ∨ ∃ a cap, u = .slice (some a) m.length cap ∧ ∀ j x, (Lib.byteCells m)[j]? = some x → w.cell? (a.add j) = some x
theorem one_bytes {l : List UInt8} : ∀ u ∈ Lib.byteCells l, u.oneCell' = true := by
  intro u hu
  simp only [Lib.byteCells, List.mem_map] at hu
  obtain ⟨c, _, rfl⟩ := hu
  rfl
theorem app_src {B : Nat} {w : World} {v u : Value} {l m : List UInt8} (h : w.ownsRow B 5 1 v l.length (Lib.byteCells l)) (hu : Src w u m) (hB : B ≤ w.heap.size) (hl : l.length + m.length ≤ 1099511627776) :
    ∃ v' w', (Builtin.append_ #[113, 113] 113 #[v, u]).run Tryz.prog w = .ok v' w' ∧ w'.ownsRow B 5 1 v' (l ++ m).length (Lib.byteCells (l ++ m)) ∧ w.grownBy w' v.ownBlock := by
  obtain ⟨i0, hi, hz0, hz1, hz2⟩ := info_parts Tryz.info5
  rcases hu with ⟨rfl, rfl⟩ | ⟨a, cap, rfl, hc⟩
  · exact ⟨v, w, run_append_owned_none (P := Tryz.prog) (w := w) B 113 113 5 i0 1 Tryz.underlying113 hi v _ _ h, by rw [List.append_nil]; exact h, ⟨rfl, rfl, rfl, Nat.le_refl _, fun _ _ _ => rfl⟩⟩
  · obtain ⟨v', w', hr, ho, hgr, _, hat⟩ := run_append_own_at (P := Tryz.prog) (w := w) B 113 113 5 i0 (.int .u8 0) 1 1 Tryz.underlying113 hi hz0 hz1 hz2 rfl (by decide) v _ _ h a m.length cap (Lib.byteCells m) (by rw [Lib.byteCells_length, Nat.mul_one]) hc (one_bytes (l := m)) (by unfold maxLen; omega) (by omega) hB
    exact ⟨v', w', hr, by rw [Lib.byteCells_append, List.length_append]; exact ho, hgr⟩
/-- a writer in memory -/
structure Wm (B : Nat) (w : World) (p : Nat) (v : Value) (l : List UInt8) : Prop where
  base : B ≤ p
  blk : w.heap[p]? = some (.cells #[v] 117 (0, 0))
  own : w.ownsRow B 5 1 v l.length (Lib.byteCells l)
theorem own_keep {w w' : World} {B e size n : Nat} {v : Value} {xs : List Value} (h : w.ownsRow B e size v n xs) (hb : Below w.heap.size w w') : w'.ownsRow B e size v n xs := by
  refine ⟨h.1, ?_⟩
  rcases h.2 with h2 | ⟨g, cap, cur, hv, hB, hg, hr⟩
  · exact .inl h2
  · exact .inr ⟨g, cap, cur, hv, hB, by rw [hb.block g (Array.getElem?_eq_some_iff.1 hg).1]; exact hg, hr⟩
theorem own_ne {B p T e : Nat} {w : World} {cs : Array Value} {fz : Nat × Nat} {v : Value} {n : Nat} {xs : List Value} (h : w.ownsRow B e 1 v n xs) (hp : w.heap[p]? = some (.cells cs T fz)) (hT : T ≠ e) : v.ownBlock ≠ some p := by
  intro q
  rcases h.2 with ⟨rfl, _⟩ | ⟨g, cap, cur, rfl, _, hg, _⟩
  · cases q
  · obtain rfl : g = p := Option.some.inj q
    rw [hp] at hg
    injection hg with hg
    injection hg with _ e2 _
    exact hT e2
section
variable {B p : Nat} {w w' : World} {v : Value} {l m : List UInt8}
theorem Wm.lt (h : Wm B w p v l) : p < w.heap.size := (Array.getElem?_eq_some_iff.1 h.blk).1
theorem Wm.bw (h : Wm B w p v l) : B ≤ w.heap.size := Nat.le_of_lt (Nat.lt_of_le_of_lt h.base h.lt)
theorem Wm.cell (h : Wm B w p v l) : w.cell? ⟨p, 0, none⟩ = some v := cell_of_row w p 0 _ 117 (0, 0) h.blk
theorem Wm.froz (h : Wm B w p v l) : w.frozen? ⟨p, 0, none⟩ = false := by
  have := h.blk
  simp [World.frozen?, this]
theorem Wm.keep (h : Wm B w p v l) (hb : Below w.heap.size w w') : Wm B w' p v l := ⟨h.base, (hb.block p h.lt).trans h.blk, own_keep h.own hb⟩
theorem Wm.alloc (h : Wm B w p v l) (o : Obj) : Wm B (w.alloc o) p v l := h.keep (below_new w o)
theorem Wm.drewN (h : Wm B w p v l) (n : Nat) : Wm B (w.drewN n) p v l := ⟨h.base, h.blk, h.own⟩
theorem own_slice {n : Nat} {e : Nat} {xs : List Value} (h : w.ownsRow B e 1 v n xs) : ∃ a cap, v = .slice a n cap := by
  rcases h.2 with ⟨rfl, h0⟩ | ⟨g, cap, cur, rfl, _⟩
  · exact ⟨none, 0, by rw [h0]⟩
  · exact ⟨_, _, rfl⟩
theorem own_set {e n : Nat} {xs : List Value} {cs : Array Value} (h : w.ownsRow B e 1 v n xs) (hp : w.heap[p]? = some (.cells cs 117 (0, 0))) (hT : 117 ≠ e) (u : Value) : (w.setCell ⟨p, 0, none⟩ u).ownsRow B e 1 v n xs := by
  refine ⟨h.1, ?_⟩
  have hne := own_ne h hp hT
  rcases h.2 with h2 | ⟨g, cap, cur, hv, hB, hg, hr⟩
  · exact .inl h2
  · exact .inr ⟨g, cap, cur, hv, hB, (Below.heap_setCell w _ u g (by intro e; exact hne (by rw [hv, e]; rfl))).trans hg, hr⟩
/-- all blocks stay that are neither bytes nor the writer -/
def Kt (p : Nat) (w w' : World) : Prop := ∀ (g : Nat) (cs : Array Value) (T : Nat), w.heap[g]? = some (.cells cs T (0, 0)) → T ≠ 5 → g ≠ p → w'.heap[g]? = some (.cells cs T (0, 0))
def Bw (B p : Nat) (w w' : World) : Prop := Below B w w' ∧ Kt p w w'
theorem Bw.refl (B p : Nat) (w : World) : Bw B p w w := ⟨Below.refl B w, fun _ _ _ h _ _ => h⟩
theorem Bw.trans {B p : Nat} {w w' w'' : World} (h : Bw B p w w') (k : Bw B p w' w'') : Bw B p w w'' := ⟨h.1.trans k.1, fun g cs T hg hT hp => k.2 g cs T (h.2 g cs T hg hT hp) hT hp⟩
theorem Bw.of {B p : Nat} {w w' : World} (h : Below w.heap.size w w') (hB : B ≤ w.heap.size) : Bw B p w w' := ⟨h.mono hB, fun g cs T hg _ _ => (h.block g (Array.getElem?_eq_some_iff.1 hg).1).trans hg⟩
theorem Bw.alloc {B p : Nat} {w w' : World} (h : Bw B p w w') (hB : B ≤ w'.heap.size) (o : Obj) : Bw B p w (w'.alloc o) := h.trans (Bw.of (below_new w' o) hB)
/-- bytes are put behind -/
theorem Wm.grow (h : Wm B w p v l) {u : Value} (hu : Src w u m) (hl : l.length + m.length ≤ 1099511627776) :
    ∃ (x : Option Addr) (n c : Nat) (w2 : World), (Builtin.append_ #[113, 113] 113 #[v, u]).run Tryz.prog w = .ok (.slice x n c) w2 ∧ w2.cell? ⟨p, 0, none⟩ = some v ∧ w2.frozen? ⟨p, 0, none⟩ = false ∧
      Wm B (w2.setCell ⟨p, 0, none⟩ (.slice x n c)) p (.slice x n c) (l ++ m) ∧ Bw B p w (w2.setCell ⟨p, 0, none⟩ (.slice x n c)) := by
  obtain ⟨v', w2, hr, ho, hg⟩ := app_src h.own hu h.bw hl
  obtain ⟨x, c, rfl⟩ := own_slice ho
  have hp : w2.heap[p]? = some (.cells #[v] 117 (0, 0)) := (hg.block p h.lt (fun e => own_ne h.own h.blk (by decide) e.symm)).trans h.blk
  refine ⟨x, _, c, w2, hr, cell_of_row w2 p 0 _ 117 (0, 0) hp, by simp [World.frozen?, hp], ⟨h.base, ?_, own_set ho hp (by decide) _⟩, ?_⟩
  · rw [set_blk hp]
    rfl
  · refine ⟨((Below.refl B w).grown hg h.bw fun k hk => (h.own.lt k hk).1).setCell h.base _, fun g cs T hgb hT hgp => ?_⟩
    have h1 : w2.heap[g]? = some (.cells cs T (0, 0)) := (hg.block g (Array.getElem?_eq_some_iff.1 hgb).1 (fun e => own_ne h.own hgb hT e.symm)).trans hgb
    exact (Below.heap_setCell w2 _ _ g hgp).trans h1
end
/-- what a writer's call hands back -/
def WP (B p : Nat) (l : List UInt8) (w : World) (e : Ending) (w' : World) : Prop := e = .returned (.tuple #[]) ∧ ∃ v, Hid (Wm B w' p v l) ∧ Hid (Bw B p w w')
set_option maxHeartbeats 4000000 in
theorem xadd (B p : Nat) (v u : Value) (l m : List UInt8) (w : World) (h : Wm B w p v l) (hu : Src w u m) (hl : l.length + m.length ≤ 1099511627776) : Calls Tryz.prog 106 #[.pointer (some ⟨p, 0, none⟩), u] w (WP B p (l ++ m) w) := by
  obtain ⟨xv, cv, rfl⟩ := own_slice h.own
  have c0 : w.cell? ⟨p, 0, none⟩ = some (.slice xv l.length cv) := h.cell
  obtain ⟨x, n, c, w2, hr, hc2, hf2, hw, hb⟩ := h.grow hu hl
  have HR : Hid _ := hr
  have HW : Hid (Wm B (w2.setCell ⟨p, 0, none⟩ (.slice x n c)) p (.slice x n c) (l ++ m)) := hw
  have HB : Hid (Bw B p w (w2.setCell ⟨p, 0, none⟩ (.slice x n c))) := hb
  clear hr hw hb h hu
  go_enter Tryz.func106, Tryz.ntmps106
  go_wp2_with (at_builtin; refine Lib.wpList_append_run _ rfl _ _ 113 113 rfl _ _ rfl rfl _ w2 HR.out ?_)
  go_returns
  exact ⟨rfl, _, HW, HB⟩
theorem hiL_more (k : Nat) : ∀ n, n < 128 ^ k → hiL (k + 1) n = hiL k n := by
  induction k with
  | zero => intro n h; have : n = 0 := by simp at h; exact h
            rw [this, hiL_zero, hiL_zero]
  | succ k ih =>
    intro n h
    by_cases hn : n = 0
    · rw [hn, hiL_zero, hiL_zero]
    · rw [hiL_at hn, hiL_at hn, ih (n / 128) (by rw [Nat.pow_succ] at h; exact Nat.div_lt_of_lt_mul (by omega))]
theorem src_one (w : World) (c : Nat) (hc : c < 256) (cap : Nat) : Src (w.alloc (.cells #[.int .u8 (c : Int)] 5)) (.slice (some ⟨w.heap.size, 0, none⟩) 1 cap) [UInt8.ofNat c] := by
  refine .inr ⟨⟨w.heap.size, 0, none⟩, cap, rfl, fun j x hx => ?_⟩
  have e : Lib.byteCells [UInt8.ofNat c] = [.int .u8 (c : Int)] := by
    simp [Lib.byteCells, UInt8.toNat_ofNat', Nat.mod_eq_of_lt hc]
  rw [e] at hx
  exact cell_one_new _ _ _ j x hx
theorem or_high (y : Nat) (hy : y < 256) : bits .or .u8 (y : Int) 128 = ((128 + y % 128 : Nat) : Int) := by
  have h := u8_or_nat y 128 hy (by omega)
  have e : ∀ z, z < 256 → z ||| 128 = 128 + z % 128 := by decide +kernel
  rw [e y hy] at h
  exact h
theorem and_low64 (n : Nat) (hn : n < 18446744073709551616) : bits .and .u64 (n : Int) 127 = ((n % 128 : Nat) : Int) := by
  have := u64_and_nat n 127 hn (by omega)
  rw [show (127 : Nat) = 2 ^ 7 - 1 from rfl, Nat.and_two_pow_sub_one_eq_mod] at this
  exact this
/-- the groups that are written, one more -/
theorem hi_step0 {n sh : Nat} (h : n / 2 ^ sh = 0) : hiL 10 (n / 2 ^ (sh + 7)) = hiL 10 (n / 2 ^ sh) := by
  rw [Nat.pow_add, ← Nat.div_div_eq_div_mul, h]
theorem hi_step1 {n sh : Nat} (hn : n < 18446744073709551616) (hs : 1 ≤ sh) (h : n / 2 ^ sh ≠ 0) : hiL 10 (n / 2 ^ sh) = hiL 10 (n / 2 ^ (sh + 7)) ++ [UInt8.ofNat (128 + n / 2 ^ sh % 128)] := by
  rw [hiL_at h, Nat.pow_add, ← Nat.div_div_eq_div_mul, show 2 ^ 7 = 128 from rfl, hiL_more 9]
  have h1 : n / 2 ^ sh / 128 ≤ n := Nat.le_trans (Nat.div_le_self _ _) (Nat.div_le_self _ _)
  have h2 : n / 2 ^ sh ≤ n / 2 ^ 1 := Nat.div_le_div_left (Nat.pow_le_pow_right (by omega) hs) (by omega)
  have h3 : n / 2 ^ 1 < 9223372036854775808 := by omega
  omega
theorem hi_start {n : Nat} (hn : n < 18446744073709551616) : hiL 10 (n / 2 ^ (63 + 7)) = [] := by
  rw [Nat.div_eq_of_lt (by omega), hiL_zero]
theorem hi_len (k : Nat) : ∀ n, (hiL k n).length ≤ k := by
  induction k with
  | zero => intro n; simp [hiL]
  | succ k ih =>
    intro n
    by_cases hn : n = 0
    · rw [hn, hiL_zero]; simp
    · rw [hiL_at hn, List.length_append]
      have := ih (n / 128)
      simp; omega
set_option maxHeartbeats 4000000 in
theorem wuint (B p : Nat) (v : Value) (l : List UInt8) (n : Nat) (hn : n < 18446744073709551616) (w : World) (h : Wm B w p v l) (hl : l.length ≤ 1000000000000) : Calls Tryz.prog 75 #[.pointer (some ⟨p, 0, none⟩), .int .u64 n] w (WP B p (l ++ uintL n) w) := by
  have HW : Hid (Wm B w p v l) := h
  clear h
  go_enter Tryz.func75, Tryz.ntmps75
  go_wp2_with fail
  go_loopw [4] (fun i wr => ∃ (sh : Nat) (v : Value), i = .int .i64 sh ∧ sh ≤ 63 ∧ (0 < sh → 7 ≤ sh) ∧ Hid (sh % 7 = 0) ∧ Hid (Wm B wr p v (l ++ hiL 10 (n / 2 ^ (sh + 7)))) ∧ Hid (Bw B p w wr)) (fun i _ => (Lib.intOf i).toNat)
  case atStart => exact ⟨63, v, rfl, by omega, by omega, by unfold Hid; omega, by unfold Hid; rw [hi_start hn, List.append_nil]; exact HW.out, Bw.refl _ _ _⟩
  case round =>
    obtain ⟨sh, v2, rfl, h63, h7, HM, HW2, HB⟩ := hrel
    by_cases hs0 : 0 < sh
    · have hz : (0 : Int) < (sh : Int) := by omega
      have h7 := h7 hs0
      have hcast : (n : Int) / 2 ^ sh = ((n / 2 ^ sh : Nat) : Int) := by rw [Int.natCast_ediv]; simp
      obtain ⟨sh2, hsh⟩ : ∃ sh2, sh = sh2 + 7 := ⟨sh - 7, by omega⟩
      have hsz : (sh : Int) - 7 = (sh2 : Int) := by omega
      by_cases h0 : n / 2 ^ sh = 0
      · have hne : ((n : Int) / 2 ^ sh != 0) = false := by rw [hcast, h0]; rfl
        have HW3 : Hid (Wm B wr p v2 (l ++ hiL 10 (n / 2 ^ (sh2 + 7)))) := by unfold Hid; rw [← hsh, ← hi_step0 h0]; exact HW2.out
        have HA : Hid ((0 < sh2 → 7 ≤ sh2) ∧ sh2 % 7 = 0 ∧ sh2 ≤ 63) := by have := HM.out; unfold Hid; omega
        clear hcast h0 HW2 hsh
        go_wp2_with fail
        exact ⟨⟨sh2, v2, rfl, HA.out.2.2, HA.out.1, HA.out.2.1, HW3.out, HB.out⟩, by simp [Lib.intOf]; omega⟩
      · have hne : ((n : Int) / 2 ^ sh != 0) = true := by rw [hcast, bne_iff_ne]; omega
        have HO : Hid (bits .or .u8 ((n : Int) / 2 ^ sh % 256) 128 = ((128 + n / 2 ^ sh % 128 : Nat) : Int)) := by
          unfold Hid
          have e : (n : Int) / 2 ^ sh % 256 = ((n / 2 ^ sh % 256 : Nat) : Int) := by rw [hcast]; omega
          rw [e, or_high _ (by omega)]
          omega
        have HS : Hid (l ++ hiL 10 (n / 2 ^ (sh + 7)) ++ [UInt8.ofNat (128 + n / 2 ^ sh % 128)] = l ++ hiL 10 (n / 2 ^ (sh2 + 7))) := by unfold Hid; rw [List.append_assoc, ← hi_step1 hn hs0 h0, hsh]
        have HA : Hid ((0 < sh2 → 7 ≤ sh2) ∧ sh2 % 7 = 0 ∧ sh2 ≤ 63) := by have := HM.out; unfold Hid; omega
        have HL : Hid ((l ++ hiL 10 (n / 2 ^ (sh + 7))).length + 1 ≤ 1099511627776) := by
          unfold Hid
          rw [List.length_append]
          have := hi_len 10 (n / 2 ^ (sh + 7))
          omega
        have HC : Hid (128 + n / 2 ^ sh % 128 < 256) := by unfold Hid; omega
        clear hcast h0 hsh
        go_wp2_with fail
        rw [HO.out]
        generalize 128 + n / 2 ^ sh % 128 = c at *
        have HW4 : Hid (Wm B (wr.alloc (.cells #[.int .u8 (c : Int)] 5)) p v2 (l ++ hiL 10 (n / 2 ^ (sh + 7)))) := HW2.out.alloc _
        have HB4 : Hid (Bw B p w (wr.alloc (.cells #[.int .u8 (c : Int)] 5))) := HB.out.alloc HW2.out.bw _
        refine (xadd B p v2 _ _ _ _ HW4.out (src_one wr c HC.out 1) HL.out).mono ?_
        rintro e w3 ⟨rfl, v3, HW5, HB5⟩
        rw [HS.out] at HW5
        have HB6 : Hid (Bw B p w w3) := HB4.out.trans HB5.out
        clear HW4 HB4 HB5 HW2 HB
        go_wp2_with fail
        exact ⟨⟨sh2, v3, rfl, HA.out.2.2, HA.out.1, HA.out.2.1, HW5.out, HB6.out⟩, by simp [Lib.intOf]; omega⟩
    · have hz : ¬ (0 : Int) < (sh : Int) := by omega
      have hsh : sh = 0 := by omega
      subst hsh
      have HA : Hid (bits .and .u64 (n : Int) 127 % 256 = ((n % 128 : Nat) : Int)) := by unfold Hid; rw [and_low64 n hn]; omega
      have HS : Hid (l ++ hiL 10 (n / 2 ^ (0 + 7)) ++ [UInt8.ofNat (n % 128)] = l ++ uintL n) := by unfold Hid uintL; rw [List.append_assoc]
      have HL : Hid ((l ++ hiL 10 (n / 2 ^ (0 + 7))).length + 1 ≤ 1099511627776) := by
        unfold Hid
        rw [List.length_append]
        have := hi_len 10 (n / 2 ^ (0 + 7))
        omega
      have HC : Hid (n % 128 < 256) := by unfold Hid; omega
      go_wp2_with fail
      rw [HA.out]
      generalize n % 128 = c at *
      have HW4 : Hid (Wm B (wr.alloc (.cells #[.int .u8 (c : Int)] 5)) p v2 (l ++ hiL 10 (n / 2 ^ (0 + 7)))) := HW2.out.alloc _
      have HB4 : Hid (Bw B p w (wr.alloc (.cells #[.int .u8 (c : Int)] 5))) := HB.out.alloc HW2.out.bw _
      refine (xadd B p v2 _ _ _ _ HW4.out (src_one wr c HC.out 1) HL.out).mono ?_
      rintro e w3 ⟨rfl, v3, HW5, HB5⟩
      rw [HS.out] at HW5
      have HB6 : Hid (Bw B p w w3) := HB4.out.trans HB5.out
      clear HW4 HB4 HB5 HW2 HB
      go_wp2_with fail
      go_returns
      exact ⟨rfl, v3, HW5, HB6⟩
end Go.Proofs.YtdmlgheajblcdaaGreat

/- The writer's Int, Text, Bool, Ints, Bytes. -/
namespace Go.Proofs.YtdmlgheajblcdaaGreat
open Go.RowKit
set_option linter.unusedVariables false
set_option linter.unusedSimpArgs false
theorem fo_neg {n : Int} (h : n < 0) : fo n = (-2 * n - 1).toNat := if_pos h
theorem fo_pos {n : Int} (h : ¬ n < 0) : fo n = (2 * n).toNat := if_neg h
theorem twice_neg {n : Int} (h1 : -9223372036854775808 ≤ n) (h0 : n < 0) : bits .xor .u64 IntKind.u64.max (IntKind.u64.wrap (IntKind.u64.wrap n * 2)) = ((fo n : Nat) : Int) := by
  obtain ⟨m, hm⟩ : ∃ m : Nat, (m : Int) = 2 * n + 18446744073709551616 := ⟨(2 * n + 18446744073709551616).toNat, by omega⟩
  have e : IntKind.u64.wrap (IntKind.u64.wrap n * 2) = (m : Int) := by
    rw [IntKind.wrap_u64, IntKind.wrap_u64]
    omega
  rw [e, notu64 m (by omega), fo_neg h0]
  omega
set_option maxHeartbeats 4000000 in
theorem wint (B p : Nat) (v : Value) (l : List UInt8) (n : Int) (hn : I64 n) (w : World) (h : Wm B w p v l) (hl : l.length ≤ 1000000000000) : Calls Tryz.prog 47 #[.pointer (some ⟨p, 0, none⟩), .int .i64 n] w (WP B p (l ++ intL n) w) := by
  have HX : Hid (Calls Tryz.prog 75 #[.pointer (some ⟨p, 0, none⟩), .int .u64 ((fo n : Nat) : Int)] w (WP B p (l ++ intL n) w)) := wuint B p v l (fo n) (fo_lt hn) w h hl
  obtain ⟨h1, h2⟩ := hn
  clear h hl
  by_cases h0 : n < 0
  · have HT : Hid (bits .xor .u64 IntKind.u64.max (IntKind.u64.wrap (IntKind.u64.wrap n * 2)) = ((fo n : Nat) : Int)) := twice_neg h1 h0
    go_enter Tryz.func47, Tryz.ntmps47
    go_wp2_with fail
    rw [HT.out]
    refine HX.out.mono ?_
    rintro e w1 ⟨rfl, v1, HW1, HB1⟩
    go_wp2_with fail
    go_returns
    exact ⟨rfl, v1, HW1, HB1⟩
  · have HT : Hid (n * 2 = ((fo n : Nat) : Int)) := by unfold Hid; rw [fo_pos h0]; omega
    go_enter Tryz.func47, Tryz.ntmps47
    go_wp2_with fail
    rw [HT.out]
    refine HX.out.mono ?_
    rintro e w1 ⟨rfl, v1, HW1, HB1⟩
    go_wp2_with fail
    go_returns
    exact ⟨rfl, v1, HW1, HB1⟩
set_option maxHeartbeats 4000000 in
theorem wbool (B p : Nat) (v : Value) (l : List UInt8) (b : Bool) (w : World) (h : Wm B w p v l) (hl : l.length ≤ 1000000000000) : Calls Tryz.prog 201 #[.pointer (some ⟨p, 0, none⟩), .bool b] w (WP B p (l ++ boolL b) w) := by
  have HW : Hid (Wm B w p v l) := h
  clear h
  cases b with
  | true =>
    have HW4 : Hid (Wm B (w.alloc (.cells #[.int .u8 1] 5)) p v l) := HW.out.alloc _
    have HB4 : Hid (Bw B p w (w.alloc (.cells #[.int .u8 1] 5))) := (Bw.refl B p w).alloc HW.out.bw _
    have HS : Hid (Src (w.alloc (.cells #[.int .u8 1] 5)) (.slice (some ⟨w.heap.size, 0, none⟩) 1 1) (boolL true)) := src_one w 1 (by omega) 1
    go_enter Tryz.func201, Tryz.ntmps201
    go_wp2_with fail
    refine (xadd B p v _ l _ _ HW4.out HS.out (by simp [boolL]; omega)).mono ?_
    rintro e w3 ⟨rfl, v3, HW5, HB5⟩
    have HB6 : Hid (Bw B p w w3) := HB4.out.trans HB5.out
    clear HW4 HB4 HB5
    go_wp2_with fail
    go_returns
    exact ⟨rfl, v3, HW5, HB6⟩
  | false =>
    have HW4 : Hid (Wm B (w.alloc (.cells #[.int .u8 0] 5)) p v l) := HW.out.alloc _
    have HB4 : Hid (Bw B p w (w.alloc (.cells #[.int .u8 0] 5))) := (Bw.refl B p w).alloc HW.out.bw _
    have HS : Hid (Src (w.alloc (.cells #[.int .u8 0] 5)) (.slice (some ⟨w.heap.size, 0, none⟩) 1 1) (boolL false)) := src_one w 0 (by omega) 1
    go_enter Tryz.func201, Tryz.ntmps201
    go_wp2_with fail
    refine (xadd B p v _ l _ _ HW4.out HS.out (by simp [boolL]; omega)).mono ?_
    rintro e w3 ⟨rfl, v3, HW5, HB5⟩
    have HB6 : Hid (Bw B p w w3) := HB4.out.trans HB5.out
    clear HW4 HB4 HB5
    go_wp2_with fail
    go_returns
    exact ⟨rfl, v3, HW5, HB6⟩
theorem below_bytes (w : World) (s : ByteArray) : Below w.heap.size w (Lib.bytesWorld w 5 s) := by
  refine ⟨rfl, rfl, rfl, ?_, fun k hk => Lib.bytesWorld_at_old w 5 s k hk⟩
  rw [Lib.bytesWorld_size]
  omega
theorem src_bytes (w : World) (s : ByteArray) (cap : Nat) : Src (Lib.bytesWorld w 5 s) (.slice (some ⟨w.heap.size, 0, none⟩) s.size cap) s.data.toList := by
  refine .inr ⟨⟨w.heap.size, 0, none⟩, cap, rfl, fun j x hx => ?_⟩
  have hj : j < s.size := by
    have := (List.getElem?_eq_some_iff.1 hx).1
    rw [Lib.byteCells_length] at this
    exact this
  have ha : (⟨w.heap.size, 0, none⟩ : Addr).add j = ⟨w.heap.size, j, none⟩ := by cases j <;> simp [Addr.add]
  rw [ha, Lib.bytesWorld_cell w 5 s j hj]
  simp only [Lib.byteCells, List.getElem?_map] at hx
  have h1 : j < s.data.toList.length := hj
  rw [List.getElem?_eq_getElem h1] at hx
  rw [List.getD_eq_getElem?_getD, List.getElem?_eq_getElem h1]
  exact hx
set_option maxHeartbeats 4000000 in
theorem wtext (B p : Nat) (v : Value) (l : List UInt8) (s : ByteArray) (w : World) (h : Wm B w p v l) (hl : l.length + s.size ≤ 1000000000000) : Calls Tryz.prog 152 #[.pointer (some ⟨p, 0, none⟩), .string s] w (WP B p (l ++ textL s.data.toList) w) := by
  have HX : Hid (Calls Tryz.prog 75 #[.pointer (some ⟨p, 0, none⟩), .int .u64 (s.size : Int)] w (WP B p (l ++ uintL s.size) w)) := wuint B p v l s.size (by omega) w h (by omega)
  have HL : Hid ((l ++ uintL s.size).length + s.data.toList.length ≤ 1099511627776) := by
    have h1 := (uint_len (n := s.size) (by omega)).2
    have h2 : s.data.toList.length = s.size := rfl
    unfold Hid
    rw [List.length_append]
    omega
  have HT : Hid (l ++ uintL s.size ++ s.data.toList = l ++ textL s.data.toList) := by unfold Hid textL; rw [List.append_assoc]; rfl
  have hcv : ∀ w : World, (convert 9 113 (.string s)).run Tryz.prog w = .ok (.slice (some ⟨w.heap.size, 0, none⟩) s.size (grownCap w s.size 0 5)) (Lib.bytesWorld w 5 s) := fun w => Lib.run_convert_string_bytes w 9 113 5 s Tryz.underlying9 Tryz.underlying113 Tryz.underlying5
  clear h
  go_enter Tryz.func152, Tryz.ntmps152
  go_wp2_with fail
  refine HX.out.mono ?_
  rintro e w1 ⟨rfl, v1, HW1, HB1⟩
  have HW4 : Hid (Wm B (Lib.bytesWorld w1 5 s) p v1 (l ++ uintL s.size)) := HW1.out.keep (below_bytes w1 s)
  have HB4 : Hid (Bw B p w (Lib.bytesWorld w1 5 s)) := HB1.out.trans (Bw.of (below_bytes w1 s) HW1.out.bw)
  go_wp2_with fail
  refine (xadd B p v1 _ _ _ _ HW4.out (src_bytes w1 s _) HL.out).mono ?_
  rintro e w3 ⟨rfl, v3, HW5, HB5⟩
  rw [HT.out] at HW5
  have HB6 : Hid (Bw B p w w3) := HB4.out.trans HB5.out
  clear HW4 HB4 HB5
  go_wp2_with fail
  go_returns
  exact ⟨rfl, v3, HW5, HB6⟩
/-- numbers that a slice has, below B -/
def Ins (B : Nat) (w : World) (a : Option Addr) (xs : List Int) : Prop := 0 < xs.length → ∃ b off, a = some ⟨b, off, none⟩ ∧ b < B ∧ ∀ j (h : j < xs.length), w.cell? ⟨b, off + j, none⟩ = some (.int .i64 xs[j])
theorem Ins.keep {B : Nat} {w w' : World} {a : Option Addr} {xs : List Int} (h : Ins B w a xs) (hb : Below B w w') : Ins B w' a xs := fun h0 => by
  obtain ⟨b, off, rfl, hB, hc⟩ := h h0
  exact ⟨b, off, rfl, hB, fun j hj => (hb.cell (by exact hB)).trans (hc j hj)⟩
theorem Ins.mono {B C : Nat} {w : World} {a : Option Addr} {xs : List Int} (h : Ins B w a xs) (hb : B ≤ C) : Ins C w a xs := fun h0 => by
  obtain ⟨b, off, rfl, hB, hc⟩ := h h0
  exact ⟨b, off, rfl, Nat.lt_of_lt_of_le hB hb, hc⟩
theorem flatI_app (a b : List Int) : flatI (a ++ b) = flatI a ++ flatI b := by
  induction a with
  | nil => rfl
  | cons n a ih => show intL n ++ flatI (a ++ b) = (intL n ++ flatI a) ++ flatI b; rw [ih, List.append_assoc]
theorem flatI_take {xs : List Int} {k : Nat} (h : k < xs.length) : flatI (xs.take (k + 1)) = flatI (xs.take k) ++ intL xs[k] := by
  rw [List.take_succ_eq_append_getElem h, flatI_app]
  show _ ++ (intL xs[k] ++ []) = _
  rw [List.append_nil]
set_option maxHeartbeats 4000000 in
theorem wints (B p : Nat) (v : Value) (l : List UInt8) (xs : List Int) (a : Option Addr) (cap : Nat) (w : World) (h : Wm B w p v l) (hI : Ins B w a xs) (hx : ∀ n ∈ xs, I64 n) (hl : l.length + 10 * xs.length ≤ 999999999000) : Calls Tryz.prog 181 #[.pointer (some ⟨p, 0, none⟩), .slice a xs.length cap] w (WP B p (l ++ intsL xs) w) := by
  have HX : Hid (Calls Tryz.prog 75 #[.pointer (some ⟨p, 0, none⟩), .int .u64 (xs.length : Int)] w (WP B p (l ++ uintL xs.length) w)) := wuint B p v l xs.length (by omega) w h (by omega)
  have HI : Hid (Ins B w a xs) := hI
  have HN : Hid (∀ n ∈ xs, I64 n) := hx
  have hul := (uint_len (n := xs.length) (by omega)).2
  clear h hI hx
  go_enter Tryz.func181, Tryz.ntmps181
  go_wp2_with fail
  refine HX.out.mono ?_
  rintro e w1 ⟨rfl, v1, HW1, HB1⟩
  go_wp2_with fail
  go_loopw [13] (fun i wr => ∃ (k : Nat) (v : Value), i = .int .i64 k ∧ k ≤ xs.length ∧ Hid (Wm B wr p v (l ++ uintL xs.length ++ flatI (xs.take k))) ∧ Hid (Bw B p w wr)) (fun i _ => xs.length - (Lib.intOf i).toNat)
  case atStart => exact ⟨0, v1, rfl, Nat.zero_le _, by unfold Hid; rw [List.take_zero]; show Wm B w1 p v1 (_ ++ []); rw [List.append_nil]; exact HW1.out, HB1⟩
  case round =>
    obtain ⟨k, v2, rfl, hk, HW2, HB2⟩ := hrel
    by_cases hkn : k < xs.length
    · have hkz : (k : Int) < (xs.length : Int) := by omega
      obtain ⟨b, off, rfl, hbl, hce⟩ := HI.out (by omega)
      have hc : wr.cell? ⟨b, off + k, none⟩ = some (.int .i64 xs[k]) := (HB2.out.1.cell (by exact hbl)).trans (hce k hkn)
      have HT : Hid (l ++ uintL xs.length ++ flatI (xs.take k) ++ intL xs[k] = l ++ uintL xs.length ++ flatI (xs.take (k + 1))) := by unfold Hid; rw [flatI_take hkn, List.append_assoc]
      have HC : Hid (Calls Tryz.prog 47 #[.pointer (some ⟨p, 0, none⟩), .int .i64 xs[k]] wr (WP B p (l ++ uintL xs.length ++ flatI (xs.take k) ++ intL xs[k]) wr)) := by
        refine wint B p v2 _ xs[k] (HN.out _ (List.getElem_mem hkn)) wr HW2.out ?_
        rw [List.length_append, List.length_append]
        have := flatI_len (xs.take k) (fun n hn => HN.out n (List.mem_of_mem_take hn))
        rw [List.length_take] at this
        omega
      rw [HT.out] at HC
      generalize xs[k] = n at *
      clear hce HT
      go_wp2_with fail
      refine HC.out.mono ?_
      rintro e w3 ⟨rfl, v3, HW3, HB3⟩
      have HB4 : Hid (Bw B p w w3) := HB2.out.trans HB3.out
      clear HB3
      go_wp2_with fail
      exact ⟨⟨k + 1, v3, by go_num, by omega, HW3.out, HB4.out⟩, by simp [Lib.intOf]; omega⟩
    · have hkz : ¬ (k : Int) < (xs.length : Int) := by omega
      have HT : Hid (l ++ uintL xs.length ++ flatI (xs.take k) = l ++ intsL xs) := by unfold Hid intsL; rw [List.take_of_length_le (by omega), List.append_assoc]
      rw [HT.out] at HW2
      go_wp2_with fail
      go_returns
      exact ⟨rfl, v2, HW2, HB2⟩
theorem own_text {B : Nat} {w : World} {v : Value} {l : List UInt8} (h : w.ownsRow B 5 1 v l.length (Lib.byteCells l)) : (convert 113 9 v).run Tryz.prog w = .ok (.string ⟨l.toArray⟩) w := by
  rcases h.2 with ⟨rfl, h0⟩ | ⟨g, cap, cur, rfl, hb, hg, h1, h2, h3, h4⟩
  · have hb : l = [] := List.length_eq_zero_iff.1 h0
    rw [hb, run_convert_bytes_string w 113 9 5 none 0 0 Tryz.underlying113 Tryz.underlying5 Tryz.underlying9]
    rfl
  · refine run_convert_bytes_back (P := Tryz.prog) w 113 9 5 ⟨g, 0, none⟩ cap l Tryz.underlying113 Tryz.underlying5 Tryz.underlying9 (fun j hj => ?_)
    refine h.cells (g := g) rfl j _ ?_
    simp only [Lib.byteCells, List.getElem?_map, List.getElem?_eq_getElem hj]
    rfl
/-- A call answers a text, and leaves the world alone. -/
def TP (l : List UInt8) (w : World) (e : Ending) (w' : World) : Prop := e = .returned (.string ⟨l.toArray⟩) ∧ w = w'
set_option maxHeartbeats 4000000 in
theorem wbytes (B p : Nat) (v : Value) (l : List UInt8) (w : World) (h : Wm B w p v l) : Calls Tryz.prog 48 #[.pointer (some ⟨p, 0, none⟩)] w (TP l w) := by
  obtain ⟨xv, cv, rfl⟩ := own_slice h.own
  have c0 : w.cell? ⟨p, 0, none⟩ = some (.slice xv l.length cv) := h.cell
  have hcv := own_text h.own
  clear h
  unfold TP
  generalize (⟨l.toArray⟩ : ByteArray) = S at *
  generalize l.length = n at *
  go_enter Tryz.func48, Tryz.ntmps48
  go_wp2_with fail
  go_ret
  exact ⟨rfl, rfl⟩
end Go.Proofs.YtdmlgheajblcdaaGreat

/- The reference's Uint, Fold, Int, Text, Bool, Ints. -/
namespace Go.Proofs.YtdmlgheajblcdaaGreat
open Go.RowKit
set_option linter.unusedVariables false
set_option linter.unusedSimpArgs false
set_option maxRecDepth 20000
def SB (l : List UInt8) (w : World) (e : Ending) (w' : World) : Prop := e = .returned (.string ⟨l.toArray⟩) ∧ Below w.heap.size w w'
theorem SB.mk {l : List UInt8} {s : ByteArray} {w w' : World} (h : s.data.toList = l) (hb : Below w.heap.size w w') : SB l w (.returned (.string s)) w' := ⟨by rw [← h], hb⟩
def BB (b : Bool) (w : World) (e : Ending) (w' : World) : Prop := e = .returned (.bool b) ∧ Below w.heap.size w w'
theorem BB.mk {b c : Bool} {w w' : World} (h : c = b) (hb : Below w.heap.size w w') : BB b w (.returned (.bool c)) w' := ⟨by rw [h], hb⟩
theorem str_of {w : World} {l : List UInt8} {b cap : Nat} (hb : w.heap[b]? = some (.cells (Lib.byteCells l).toArray 5 (0, 0))) : (convert 113 9 (Value.slice (some ⟨b, 0, none⟩) l.length cap)).run Tryz.prog w = .ok (.string ⟨l.toArray⟩) w := by
  refine run_convert_bytes_back w 113 9 5 ⟨b, 0, none⟩ cap l Tryz.underlying113 Tryz.underlying5 Tryz.underlying9 ?_
  intro j hj
  have ha : (⟨b, 0, none⟩ : Addr).add j = ⟨b, j, none⟩ := by
    cases j <;> simp [Addr.add]
  rw [ha]
  simp [World.cell?, hb, Lib.byteCells, hj]
theorem str_one (w : World) (c : Nat) (hc : c < 256) (z : Int) (hz : z = c) : (convert 113 9 (Value.slice (some ⟨w.heap.size, 0, none⟩) 1 1)).run Tryz.prog (w.alloc (.cells #[.int .u8 z] 5)) = .ok (.string ⟨#[UInt8.ofNat c]⟩) (w.alloc (.cells #[.int .u8 z] 5)) := by
  subst hz
  have e : (Lib.byteCells [UInt8.ofNat c]).toArray = #[Value.int .u8 (c : Int)] := by simp [Lib.byteCells, UInt8.toNat_ofNat', Nat.mod_eq_of_lt hc]
  have := str_of (w := w.alloc (.cells #[.int .u8 (c : Int)] 5)) (l := [UInt8.ofNat c]) (b := w.heap.size) (cap := 1) (by rw [e]; exact heap_alloc_new w _)
  exact this
theorem hiL_ten {m : Nat} (hm : m < 18446744073709551616) (h0 : m ≠ 0) : hiL 10 m = hiL 10 (m / 128) ++ [UInt8.ofNat (128 + m % 128)] := by
  rw [hiL_at h0, hiL_more 9 (m / 128) (by omega)]
set_option maxHeartbeats 4000000 in
theorem ruint (n : Nat) (hn : n < 18446744073709551616) (w : World) : Calls Tryz.prog 52 #[.int .u64 n] w (SB (uintL n) w) := by
  have hcv := str_one w (n % 128) (by omega) ((n : Int) % 128) (by omega)
  have HB0 : Hid (Below w.heap.size w (w.alloc (.cells #[.int .u8 ((n : Int) % 128)] 5))) := below_new w _
  have HS0 : Hid (uintL n = hiL 10 (n / 128) ++ (⟨#[UInt8.ofNat (n % 128)]⟩ : ByteArray).data.toList) := rfl
  have hz1 : (⟨#[UInt8.ofNat (n % 128)]⟩ : ByteArray).size ≤ 1 := Nat.le_refl 1
  generalize (⟨#[UInt8.ofNat (n % 128)]⟩ : ByteArray) = S0 at *
  go_enter Tryz.func52, Tryz.ntmps52
  go_wp2_with fail
  go_loopw [0, 3] (fun i v wr => ∃ (m : Nat) (S : ByteArray), i = .int .u64 m ∧ v = .string S ∧ m < 18446744073709551616 ∧ Hid (uintL n = hiL 10 m ++ S.data.toList) ∧ Hid (Below w.heap.size w wr)) (fun i _ _ => (Lib.intOf i).toNat)
  case atStart => exact ⟨n / 128, S0, by rw [Int.natCast_ediv]; rfl, rfl, by omega, HS0, HB0⟩
  case round =>
    clear HS0 HB0 hcv
    obtain ⟨m, S, rfl, rfl, hm, HS, HB⟩ := hrel
    have hsz : S.size ≤ 10 := by
      have h1 := (uint_len hn).2
      have h2 := congrArg List.length HS.out
      rw [List.length_append] at h2
      have h3 : S.data.toList.length = S.size := rfl
      omega
    by_cases h0 : m = 0
    · have hz : ¬ (0 : Int) < (m : Int) := by omega
      have HE : Hid (S.data.toList = uintL n) := by unfold Hid; rw [HS.out, h0, hiL_zero, List.nil_append]
      clear h0
      go_wp2_with fail
      go_ret
      exact SB.mk HE.out HB.out
    · have hz : (0 : Int) < (m : Int) := by omega
      have hcv := str_one wr (128 + m % 128) (by omega) (128 + (m : Int) % 128) (by omega)
      have HB2 : Hid (Below w.heap.size w (wr.alloc (.cells #[.int .u8 (128 + (m : Int) % 128)] 5))) := HB.out.alloc HB.out.size _
      have HS2 : Hid (uintL n = hiL 10 (m / 128) ++ ((⟨#[UInt8.ofNat (128 + m % 128)]⟩ : ByteArray) ++ S).data.toList) := by
        unfold Hid
        rw [HS.out, hiL_ten hm h0, ByteArray.data_append, Array.toList_append, List.append_assoc]
      have hz1 : (⟨#[UInt8.ofNat (128 + m % 128)]⟩ : ByteArray).size = 1 := rfl
      generalize (⟨#[UInt8.ofNat (128 + m % 128)]⟩ : ByteArray) = C at *
      go_wp2_with fail
      exact ⟨⟨m / 128, C ++ S, by rw [Int.natCast_ediv]; rfl, rfl, by omega, HS2.out, HB2.out⟩, by simp [Lib.intOf]; omega⟩
set_option maxHeartbeats 4000000 in
theorem rfold (n : Int) (hn : I64 n) (w : World) : Calls Tryz.prog 76 #[.int .i64 n] w (NP .u64 (fo n : Nat) w) := by
  obtain ⟨h1, h2⟩ := hn
  by_cases h0 : n < 0
  · have HT : Hid (IntKind.u64.wrap (2 * (-1 - n) + 1) = ((fo n : Nat) : Int)) := by unfold Hid; rw [fo_neg h0, IntKind.wrap_u64]; omega
    have HT2 : Hid (2 * (-1 - n) + 1 = ((fo n : Nat) : Int)) := by unfold Hid; rw [fo_neg h0]; omega
    go_enter Tryz.func76, Tryz.ntmps76
    go_wp2_with fail
    go_ret
    exact NP.mk (by first | exact HT.out | exact HT2.out)
  · have HT : Hid (IntKind.u64.wrap (2 * n) = ((fo n : Nat) : Int)) := by unfold Hid; rw [fo_pos h0, IntKind.wrap_u64]; omega
    have HT2 : Hid (2 * n = ((fo n : Nat) : Int)) := by unfold Hid; rw [fo_pos h0]; omega
    go_enter Tryz.func76, Tryz.ntmps76
    go_wp2_with fail
    go_ret
    exact NP.mk (by first | exact HT.out | exact HT2.out)
set_option maxHeartbeats 4000000 in
theorem rint (n : Int) (hn : I64 n) (w : World) : Calls Tryz.prog 49 #[.int .i64 n] w (SB (intL n) w) := by
  have HF : Hid (∀ w, Calls Tryz.prog 76 #[.int .i64 n] w (NP .u64 (fo n : Nat) w)) := fun w => rfold n hn w
  have HU : Hid (∀ w, Calls Tryz.prog 52 #[.int .u64 ((fo n : Nat) : Int)] w (SB (intL n) w)) := fun w => ruint (fo n) (fo_lt hn) w
  unfold SB at HU
  have HS : Hid ((⟨(intL n).toArray⟩ : ByteArray).data.toList = intL n) := rfl
  generalize (⟨(intL n).toArray⟩ : ByteArray) = S at *
  obtain ⟨h1, h2⟩ := hn
  generalize fo n = m at *
  go_enter Tryz.func49, Tryz.ntmps49
  go_wp2_with fail
  refine (HF.out _).mono ?_
  rintro e w1 ⟨rfl, rfl⟩
  go_wp2_with fail
  refine (HU.out _).mono ?_
  rintro e w1 ⟨rfl, hb⟩
  have HB : Hid (Below w.heap.size w w1) := hb
  clear hb
  go_wp2_with fail
  go_ret
  exact SB.mk HS.out HB.out
set_option maxHeartbeats 4000000 in
theorem rtext (s : ByteArray) (hs : s.size ≤ 1000000000000) (w : World) : Calls Tryz.prog 50 #[.string s] w (SB (textL s.data.toList) w) := by
  have HU : Hid (∀ w, Calls Tryz.prog 52 #[.int .u64 (s.size : Int)] w (SB (uintL s.size) w)) := fun w => ruint s.size (by omega) w
  unfold SB at HU
  have HS : Hid ((⟨(uintL s.size).toArray⟩ : ByteArray).data.toList = uintL s.size) := rfl
  have hz : (⟨(uintL s.size).toArray⟩ : ByteArray).size ≤ 10 := (uint_len (n := s.size) (by omega)).2
  generalize (⟨(uintL s.size).toArray⟩ : ByteArray) = S at *
  have HT : Hid ((S ++ s).data.toList = textL s.data.toList) := by
    unfold Hid
    rw [ByteArray.data_append, Array.toList_append, HS.out]
    rfl
  go_enter Tryz.func50, Tryz.ntmps50
  go_wp2_with fail
  refine (HU.out _).mono ?_
  rintro e w1 ⟨rfl, hb⟩
  have HB : Hid (Below w.heap.size w w1) := hb
  clear hb
  go_wp2_with fail
  go_ret
  exact SB.mk HT.out HB.out
set_option maxHeartbeats 4000000 in
theorem rbool (b : Bool) (w : World) : Calls Tryz.prog 77 #[.bool b] w (SB (boolL b) w) := by
  cases b with
  | true =>
    go_enter Tryz.func77, Tryz.ntmps77
    go_wp2_with fail
    go_ret
    exact SB.mk rfl (Below.refl _ w)
  | false =>
    go_enter Tryz.func77, Tryz.ntmps77
    go_wp2_with fail
    go_ret
    exact SB.mk rfl (Below.refl _ w)
set_option maxHeartbeats 4000000 in
theorem rints (xs : List Int) (a : Option Addr) (cap : Nat) (w : World) (hI : Ins w.heap.size w a xs) (hx : ∀ n ∈ xs, I64 n) (hl : xs.length ≤ 1000000) : Calls Tryz.prog 53 #[.slice a xs.length cap] w (SB (intsL xs) w) := by
  have HU : Hid (∀ w, Calls Tryz.prog 52 #[.int .u64 (xs.length : Int)] w (SB (uintL xs.length) w)) := fun w => ruint xs.length (by omega) w
  unfold SB at HU
  have HS : Hid ((⟨(uintL xs.length).toArray⟩ : ByteArray).data.toList = uintL xs.length) := rfl
  have hz : (⟨(uintL xs.length).toArray⟩ : ByteArray).size ≤ 10 := (uint_len (n := xs.length) (by omega)).2
  generalize (⟨(uintL xs.length).toArray⟩ : ByteArray) = S at *
  have HI : Hid (Ins w.heap.size w a xs) := hI
  have HN : Hid (∀ n ∈ xs, I64 n) := hx
  clear hI hx
  go_enter Tryz.func53, Tryz.ntmps53
  go_wp2_with fail
  refine (HU.out _).mono ?_
  rintro e w1 ⟨rfl, hb⟩
  have HB1 : Hid (Below w.heap.size w w1) := hb
  clear hb HU
  go_wp2_with fail
  go_loopw [3, 4] (fun v i wr => ∃ (k : Nat) (T : ByteArray), i = .int .i64 k ∧ v = .string T ∧ k ≤ xs.length ∧ Hid (T.data.toList = uintL xs.length ++ flatI (xs.take k)) ∧ Hid (Below w.heap.size w wr)) (fun _ i _ => xs.length - (Lib.intOf i).toNat)
  case atStart => exact ⟨0, S, rfl, rfl, Nat.zero_le _, by unfold Hid; rw [HS.out]; show _ = _ ++ []; rw [List.append_nil], HB1⟩
  case round =>
    clear HS HB1
    obtain ⟨k, T, rfl, rfl, hk, HT, HB⟩ := hrel
    by_cases hkn : k < xs.length
    · have hkz : (k : Int) < (xs.length : Int) := by omega
      have hTs : T.size ≤ 20000000 := by
        have h0 : T.data.toList.length = T.size := rfl
        rw [HT.out, List.length_append] at h0
        have h1 := (uint_len (n := xs.length) (by omega)).2
        have h2 := flatI_len (xs.take k) (fun n hn => HN.out n (List.mem_of_mem_take hn))
        rw [List.length_take] at h2
        omega
      obtain ⟨b, off, rfl, hbl, hce⟩ := HI.out (by omega)
      have hc : wr.cell? ⟨b, off + k, none⟩ = some (.int .i64 xs[k]) := (HB.out.cell (by exact hbl)).trans (hce k hkn)
      have HC : Hid (∀ w, Calls Tryz.prog 49 #[.int .i64 xs[k]] w (SB (intL xs[k]) w)) := fun w => rint xs[k] (HN.out _ (List.getElem_mem hkn)) w
      unfold SB at HC
      have HT2 : Hid ((T ++ (⟨(intL xs[k]).toArray⟩ : ByteArray)).data.toList = uintL xs.length ++ flatI (xs.take (k + 1))) := by
        unfold Hid
        rw [ByteArray.data_append, Array.toList_append, HT.out, flatI_take hkn, List.append_assoc]
      have hz2 : (⟨(intL xs[k]).toArray⟩ : ByteArray).size ≤ 10 := (uint_len (fo_lt (HN.out _ (List.getElem_mem hkn)))).2
      generalize (⟨(intL xs[k]).toArray⟩ : ByteArray) = D at *
      generalize xs[k] = n at *
      clear hce HT
      go_wp2_with fail
      refine (HC.out _).mono ?_
      rintro e w3 ⟨rfl, hb3⟩
      have HB3 : Hid (Below w.heap.size w w3) := HB.out.trans (hb3.mono HB.out.size)
      clear hb3
      go_wp2_with fail
      exact ⟨⟨k + 1, T ++ D, by go_num, rfl, by omega, HT2.out, HB3.out⟩, by simp [Lib.intOf]; omega⟩
    · have hkz : ¬ (k : Int) < (xs.length : Int) := by omega
      have HE : Hid (T.data.toList = intsL xs) := by unfold Hid intsL; rw [HT.out, List.take_of_length_le (by omega)]
      go_wp2_with fail
      go_ret
      exact SB.mk HE.out HB.out
/- the same numbers? -/
set_option maxHeartbeats 4000000 in
theorem rsame (xs ys : List Int) (a b : Option Addr) (c d : Nat) (w : World) (B : Nat) (hB : B ≤ w.heap.size) (hx : Ins B w a xs) (hy : Ins B w b ys) (he : xs = ys) (hl : xs.length ≤ 1000000000000) : Calls Tryz.prog 98 #[.slice a xs.length c, .slice b ys.length d] w (BB true w) := by
  subst he
  have HX : Hid (Ins B w a xs) := hx
  have HY : Hid (Ins B w b xs) := hy
  clear hx hy
  go_enter Tryz.func98, Tryz.ntmps98
  go_wp2_with fail
  go_loopw [5] (fun i wr => ∃ (k : Nat), i = .int .i64 k ∧ k ≤ xs.length ∧ Hid (Below w.heap.size w wr)) (fun i _ => xs.length - (Lib.intOf i).toNat)
  case atStart => exact ⟨0, rfl, Nat.zero_le _, Below.refl _ _⟩
  case round =>
    obtain ⟨k, rfl, hk, HBw⟩ := hrel
    by_cases hkn : k < xs.length
    · have hkz : (k : Int) < (xs.length : Int) := by omega
      obtain ⟨b1, off1, rfl, hbl1, hce1⟩ := HX.out (by omega)
      obtain ⟨b2, off2, rfl, hbl2, hce2⟩ := HY.out (by omega)
      have hc1 : wr.cell? ⟨b1, off1 + k, none⟩ = some (.int .i64 xs[k]) := (HBw.out.cell (by exact Nat.lt_of_lt_of_le hbl1 hB)).trans (hce1 k hkn)
      have hc2 : wr.cell? ⟨b2, off2 + k, none⟩ = some (.int .i64 xs[k]) := (HBw.out.cell (by exact Nat.lt_of_lt_of_le hbl2 hB)).trans (hce2 k hkn)
      generalize xs[k] = n at *
      clear hce1 hce2
      go_wp2_with fail
      go_quiet (fail)
      go_wp2_with fail
      exact ⟨⟨k + 1, by go_num, by omega, bdrew HBw.out _⟩, by simp [Lib.intOf]; omega⟩
    · have hkz : ¬ (k : Int) < (xs.length : Int) := by omega
      go_wp2_with fail
      go_ret
      exact BB.mk rfl HBw.out
end Go.Proofs.YtdmlgheajblcdaaGreat
