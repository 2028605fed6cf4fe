/- math/bits: Len64, Div64 -/
import Derived.Test.YtdfadcbchiogjaaGreatF1
import Derived.WalkKit
import Derived.ProofKit
import Derived.Handy
import Derived.WalkLawsBesides
import Derived.WalkSpells
import Derived.BigQuiet
import Derived.Deep.QuietTactic
import Derived.Deep.Light
import Derived.Deep.OwnRows
import Derived.Laws.AppendOwnNone
import Derived.Deep.RegionWith
import Derived.Lib.BitFns
import Derived.Lib.Walk
import Derived.Deep.CutBlock
import Derived.Deep.DeepCutAuto
import Derived.Deep.LoopGhost
import Derived.Deep.RegionHeld
namespace Go.Proofs.YtdfadcbchiogjaaGreat.N1
open Go.RowKit
set_option linter.unusedVariables false
set_option linter.unusedSimpArgs false

theorem bitLenAux_spec : ∀ (f x : Nat), x < 2 ^ f → x < 2 ^ Lib.bitLenAux f x ∧ (x ≠ 0 → 2 ^ (Lib.bitLenAux f x - 1) ≤ x ∧ 0 < Lib.bitLenAux f x)
  | 0, x, h => by
    have : x = 0 := by simpa using h
    subst this
    simp [Lib.bitLenAux]
  | f + 1, x, h => by
    by_cases h0 : x = 0
    · subst h0; simp [Lib.bitLenAux]
    · have ih := bitLenAux_spec f (x / 2) (by rw [Nat.pow_succ] at h; omega)
      have e : Lib.bitLenAux (f + 1) x = 1 + Lib.bitLenAux f (x / 2) := by rw [Lib.bitLenAux, if_neg h0]
      rw [e]
      refine ⟨?_, fun _ => ⟨?_, by omega⟩⟩
      · rw [Nat.add_comm, Nat.pow_succ]; omega
      · rw [show 1 + Lib.bitLenAux f (x / 2) - 1 = Lib.bitLenAux f (x / 2) by omega]
        by_cases h1 : x / 2 = 0
        · rw [h1]
          have : Lib.bitLenAux f 0 = 0 := by cases f <;> simp [Lib.bitLenAux]
          rw [this]; simp; omega
        · have h2 := ih.2 h1
          obtain ⟨m, hm⟩ : ∃ m, Lib.bitLenAux f (x / 2) = m + 1 := ⟨Lib.bitLenAux f (x / 2) - 1, by omega⟩
          rw [hm] at h2 ⊢
          rw [Nat.pow_succ]
          simp at h2
          omega
theorem bitLen_spec64 (x : Nat) (h : x < 18446744073709551616) (h0 : x ≠ 0) : x < 2 ^ Lib.bitLen x ∧ 2 ^ (Lib.bitLen x - 1) ≤ x ∧ 0 < Lib.bitLen x ∧ Lib.bitLen x ≤ 64 := by
  have h1 := bitLenAux_spec 64 x (by simpa using h)
  exact ⟨h1.1, (h1.2 h0).1, (h1.2 h0).2, Lib.bitLen_le x 64 (Nat.le_refl _) (by simpa using h)⟩

theorem tab_len (n : Nat) (h : n < Lib.len8tab.size) : ((Lib.len8tab[n]'h).toNat : Int) = (Lib.bitLen n : Int) := by
  have h2 : n < 256 := by rw [Lib.len8tab_size] at h; exact h
  have h3 := Lib.len8_of (n : Int) (by omega) (by omega)
  unfold Lib.len8 at h3
  simp only [Int.toNat_natCast] at h3
  rw [getElem?_pos Lib.len8tab n h] at h3
  simpa using h3

theorem tab_run (i : Int) (h0 : 0 ≤ i) (h1 : i < 256) (w : World) : (Instr.index 9 (.string Lib.len8tab) (.int .u8 i)).run Tryz.prog w = .ok (.int .u8 (Lib.bitLen i.toNat : Int)) w := by
  rw [Lib.run_index_len8tab w 9 .u8 i Tryz.underlying9 h0 (by omega), Lib.len8_of i h0 (by omega)]

theorem xlen64a (x : Int) (w : World) (h0 : 72057594037927936 ≤ x) (h1 : x < 18446744073709551616) : Calls Tryz.prog 95 #[.int .u64 x] w fun e w' => e = .returned (.int .i64 (Lib.bitLen x.toNat)) ∧ w = w' := by
  have hi := tab_run (x / 4294967296 / 65536 / 256) (by omega) (by omega)
  have hb := Lib.bitLen_le8' (x / 4294967296 / 65536 / 256) (by omega) (by omega)
  have s := Lib.bitLen_shift56 x.toNat (by omega) (by omega)
  have e : (x / 4294967296 / 65536 / 256).toNat = x.toNat / 72057594037927936 := by omega
  rw [← e] at s
  generalize Lib.bitLen (x / 4294967296 / 65536 / 256).toNat = bl at hi hb s
  have S : Hid _ := s
  clear s
  go_enter Tryz.func95, Tryz.ntmps95
  go_wp2
  go_ret
  exact ⟨ret_int (by rw [S.out]; omega), rfl⟩
theorem xlen64b (x : Int) (w : World) (h0 : 281474976710656 ≤ x) (h1 : x < 72057594037927936) : Calls Tryz.prog 95 #[.int .u64 x] w fun e w' => e = .returned (.int .i64 (Lib.bitLen x.toNat)) ∧ w = w' := by
  have hi := tab_run (x / 4294967296 / 65536) (by omega) (by omega)
  have hb := Lib.bitLen_le8' (x / 4294967296 / 65536) (by omega) (by omega)
  have s := Lib.bitLen_shift48 x.toNat (by omega) (by omega)
  have e : (x / 4294967296 / 65536).toNat = x.toNat / 281474976710656 := by omega
  rw [← e] at s
  generalize Lib.bitLen (x / 4294967296 / 65536).toNat = bl at hi hb s
  have S : Hid _ := s
  clear s
  go_enter Tryz.func95, Tryz.ntmps95
  go_wp2
  go_ret
  exact ⟨ret_int (by rw [S.out]; omega), rfl⟩
theorem xlen64c (x : Int) (w : World) (h0 : 1099511627776 ≤ x) (h1 : x < 281474976710656) : Calls Tryz.prog 95 #[.int .u64 x] w fun e w' => e = .returned (.int .i64 (Lib.bitLen x.toNat)) ∧ w = w' := by
  have hi := tab_run (x / 4294967296 / 256) (by omega) (by omega)
  have hb := Lib.bitLen_le8' (x / 4294967296 / 256) (by omega) (by omega)
  have s := Lib.bitLen_shift40 x.toNat (by omega) (by omega)
  have e : (x / 4294967296 / 256).toNat = x.toNat / 1099511627776 := by omega
  rw [← e] at s
  generalize Lib.bitLen (x / 4294967296 / 256).toNat = bl at hi hb s
  have S : Hid _ := s
  clear s
  go_enter Tryz.func95, Tryz.ntmps95
  go_wp2
  go_ret
  exact ⟨ret_int (by rw [S.out]; omega), rfl⟩
theorem xlen64d (x : Int) (w : World) (h0 : 4294967296 ≤ x) (h1 : x < 1099511627776) : Calls Tryz.prog 95 #[.int .u64 x] w fun e w' => e = .returned (.int .i64 (Lib.bitLen x.toNat)) ∧ w = w' := by
  have hi := tab_run (x / 4294967296) (by omega) (by omega)
  have hb := Lib.bitLen_le8' (x / 4294967296) (by omega) (by omega)
  have s := Lib.bitLen_shift32 x.toNat (by omega) (by omega)
  have e : (x / 4294967296).toNat = x.toNat / 4294967296 := by omega
  rw [← e] at s
  generalize Lib.bitLen (x / 4294967296).toNat = bl at hi hb s
  have S : Hid _ := s
  clear s
  go_enter Tryz.func95, Tryz.ntmps95
  go_wp2
  go_ret
  exact ⟨ret_int (by rw [S.out]; omega), rfl⟩
theorem xlen64e (x : Int) (w : World) (h0 : 16777216 ≤ x) (h1 : x < 4294967296) : Calls Tryz.prog 95 #[.int .u64 x] w fun e w' => e = .returned (.int .i64 (Lib.bitLen x.toNat)) ∧ w = w' := by
  have hi := tab_run (x / 65536 / 256) (by omega) (by omega)
  have hb := Lib.bitLen_le8' (x / 65536 / 256) (by omega) (by omega)
  have s := Lib.bitLen_shift24 x.toNat (by omega) (by omega)
  have e : (x / 65536 / 256).toNat = x.toNat / 16777216 := by omega
  rw [← e] at s
  generalize Lib.bitLen (x / 65536 / 256).toNat = bl at hi hb s
  have S : Hid _ := s
  clear s
  go_enter Tryz.func95, Tryz.ntmps95
  go_wp2
  go_ret
  exact ⟨ret_int (by rw [S.out]; omega), rfl⟩
theorem xlen64f (x : Int) (w : World) (h0 : 65536 ≤ x) (h1 : x < 16777216) : Calls Tryz.prog 95 #[.int .u64 x] w fun e w' => e = .returned (.int .i64 (Lib.bitLen x.toNat)) ∧ w = w' := by
  have hi := tab_run (x / 65536) (by omega) (by omega)
  have hb := Lib.bitLen_le8' (x / 65536) (by omega) (by omega)
  have s := Lib.bitLen_shift16 x.toNat (by omega) (by omega)
  have e : (x / 65536).toNat = x.toNat / 65536 := by omega
  rw [← e] at s
  generalize Lib.bitLen (x / 65536).toNat = bl at hi hb s
  have S : Hid _ := s
  clear s
  go_enter Tryz.func95, Tryz.ntmps95
  go_wp2
  go_ret
  exact ⟨ret_int (by rw [S.out]; omega), rfl⟩
theorem xlen64g (x : Int) (w : World) (h0 : 256 ≤ x) (h1 : x < 65536) : Calls Tryz.prog 95 #[.int .u64 x] w fun e w' => e = .returned (.int .i64 (Lib.bitLen x.toNat)) ∧ w = w' := by
  have hi := tab_run (x / 256) (by omega) (by omega)
  have hb := Lib.bitLen_le8' (x / 256) (by omega) (by omega)
  have s := Lib.bitLen_shift8 x.toNat (by omega) (by omega)
  have e : (x / 256).toNat = x.toNat / 256 := by omega
  rw [← e] at s
  generalize Lib.bitLen (x / 256).toNat = bl at hi hb s
  have S : Hid _ := s
  clear s
  go_enter Tryz.func95, Tryz.ntmps95
  go_wp2
  go_ret
  exact ⟨ret_int (by rw [S.out]; omega), rfl⟩
theorem xlen64h (x : Int) (w : World) (h0 : 0 ≤ x) (h1 : x < 256) : Calls Tryz.prog 95 #[.int .u64 x] w fun e w' => e = .returned (.int .i64 (Lib.bitLen x.toNat)) ∧ w = w' := by
  have hi := tab_run x (by omega) (by omega)
  have hb := Lib.bitLen_le8' x (by omega) (by omega)
  generalize Lib.bitLen x.toNat = bl at hi hb ⊢
  go_enter Tryz.func95, Tryz.ntmps95
  go_wp2
  go_ret
  exact ⟨rfl, rfl⟩
theorem xlen64 (x : Int) (w : World) (h0 : 0 ≤ x) (h1 : x ≤ 18446744073709551615) :
    Calls Tryz.prog 95 #[.int .u64 x] w fun e w' => e = .returned (.int .i64 (Lib.bitLen x.toNat)) ∧ w = w' := by
  by_cases ca : 72057594037927936 ≤ x
  · exact xlen64a x w ca (by omega)
  by_cases cb : 281474976710656 ≤ x
  · exact xlen64b x w cb (by omega)
  by_cases cc : 1099511627776 ≤ x
  · exact xlen64c x w cc (by omega)
  by_cases cd : 4294967296 ≤ x
  · exact xlen64d x w cd (by omega)
  by_cases ce : 16777216 ≤ x
  · exact xlen64e x w ce (by omega)
  by_cases cf : 65536 ≤ x
  · exact xlen64f x w cf (by omega)
  by_cases cg : 256 ≤ x
  · exact xlen64g x w cg (by omega)
  exact xlen64h x w h0 (by omega)

theorem xlz64 (x : Int) (w : World) (h0 : 0 < x) (h1 : x ≤ 18446744073709551615) :
    Calls Tryz.prog 96 #[.int .u64 x] w fun e w' => e = .returned (.int .i64 (64 - Lib.bitLen x.toNat)) ∧ w = w' := by
  have hb := (bitLen_spec64 x.toNat (by omega) (by omega)).2.2.2
  have hc := xlen64 x w (by omega) h1
  generalize Lib.bitLen x.toNat = n at hb hc ⊢
  have HC : Hid (Calls Tryz.prog 95 #[.int .u64 x] w fun e w' => e = .returned (.int .i64 n) ∧ w = w') := hc
  clear hc
  go_enter Tryz.func96, Tryz.ntmps96
  go_wp2_with fail
  refine Calls.mono HC.out ?_
  rintro e w1 ⟨rfl, rfl⟩
  go_wp2
  go_ret
  exact ⟨rfl, rfl⟩

/-- the shift by which y's first bit comes to be the word's -/
theorem lz_spec (y : Int) (h0 : 0 < y) (h1 : y ≤ 18446744073709551615) : ∃ s : Nat, s ≤ 63 ∧ (64 : Int) - Lib.bitLen y.toNat = s ∧ 9223372036854775808 ≤ y * 2 ^ s ∧ y * 2 ^ s < 18446744073709551616 := by
  obtain ⟨h2, h3, h4, h5⟩ := bitLen_spec64 y.toNat (by omega) (by omega)
  generalize Lib.bitLen y.toNat = n at *
  refine ⟨64 - n, by omega, by omega, ?_, ?_⟩
  · have e : (2 : Nat) ^ 63 = 2 ^ (n - 1) * 2 ^ (64 - n) := by rw [← Nat.pow_add]; congr 1; omega
    have h6 : 2 ^ (n - 1) * 2 ^ (64 - n) ≤ y.toNat * 2 ^ (64 - n) := Nat.mul_le_mul_right _ h3
    rw [← e] at h6
    have h7 : ((y.toNat * 2 ^ (64 - n) : Nat) : Int) = y * 2 ^ (64 - n) := by rw [Int.natCast_mul, Int.natCast_pow, Int.toNat_of_nonneg (by omega)]; rfl
    rw [← h7]
    have : (2 : Nat) ^ 63 = 9223372036854775808 := by decide
    omega
  · have e : (2 : Nat) ^ 64 = 2 ^ n * 2 ^ (64 - n) := by rw [← Nat.pow_add]; congr 1; omega
    have h6 : y.toNat * 2 ^ (64 - n) < 2 ^ n * 2 ^ (64 - n) := Nat.mul_lt_mul_of_pos_right h2 (Nat.two_pow_pos _)
    rw [← e] at h6
    have h7 : ((y.toNat * 2 ^ (64 - n) : Nat) : Int) = y * 2 ^ (64 - n) := by rw [Int.natCast_mul, Int.natCast_pow, Int.toNat_of_nonneg (by omega)]; rfl
    rw [← h7]
    have : (2 : Nat) ^ 64 = 18446744073709551616 := by decide
    omega

/-- what one half of the division is about: u below Y = y1 2^32 + y0, and the next 32 bits d -/
def Kn (u d Y y1 y0 : Int) : Prop := Y = y1 * 4294967296 + y0 ∧ (0 ≤ y0 ∧ y0 < 4294967296) ∧ (2147483648 ≤ y1 ∧ y1 < 4294967296) ∧ (0 ≤ u ∧ u < Y) ∧ (0 ≤ d ∧ d < 4294967296)
/-- what its loop keeps -/
def KnR (u d Y y1 q r : Int) : Prop := q * y1 + r = u ∧ (0 ≤ q ∧ q ≤ 4294967297) ∧ (0 ≤ r ∧ r < 4294967296) ∧ (u * 4294967296 + d) / Y ≤ q

theorem kn_side {u d Y y1 y0 q r : Int} (h : Kn u d Y y1 y0) (e : q * y1 + r = u) : q * Y - (u * 4294967296 + d) = q * y0 - (r * 4294967296 + d) := by
  obtain ⟨hY, -⟩ := h
  rw [hY, ← e]
  grind
theorem kn_lt {u d Y y1 y0 : Int} (h : Kn u d Y y1 y0) : (u * 4294967296 + d) / Y < 4294967296 := by
  obtain ⟨hY, h0, h1, h2, h3⟩ := h
  refine Int.ediv_lt_of_lt_mul (by omega) ?_
  omega
theorem kn_start {u d Y y1 y0 : Int} (h : Kn u d Y y1 y0) : KnR u d Y y1 (u / y1) (u % y1) := by
  have h' := h
  obtain ⟨hY, h0, h1, h2, h3⟩ := h
  have e := Int.mul_ediv_add_emod u y1
  have m1 := Int.emod_nonneg u (show y1 ≠ 0 by omega)
  have m2 := Int.emod_lt_of_pos u (show 0 < y1 by omega)
  refine ⟨by rw [Int.mul_comm]; exact e, ⟨Int.ediv_nonneg h2.1 (by omega), ?_⟩, by omega, ?_⟩
  · have : u / y1 < 4294967298 := Int.ediv_lt_of_lt_mul (by omega) (by omega)
    omega
  · have hq0 : 0 ≤ (u * 4294967296 + d) / Y := Int.ediv_nonneg (by omega) (by omega)
    have hq : (u * 4294967296 + d) / Y * Y ≤ u * 4294967296 + d := Int.ediv_mul_le _ (by omega)
    generalize (u * 4294967296 + d) / Y = Q at *
    refine Int.le_ediv_of_mul_le (by omega) ?_
    have e2 : Q * Y = Q * y1 * 4294967296 + Q * y0 := by rw [hY]; grind
    have e3 : 0 ≤ Q * y0 := Int.mul_nonneg hq0 h0.1
    generalize Q * y1 = z at *
    omega
theorem kn_over {u d Y y1 y0 q r : Int} (h : Kn u d Y y1 y0) (hr : KnR u d Y y1 q r) (hc : 4294967296 ≤ q ∨ r * 4294967296 + d < q * y0) : (u * 4294967296 + d) / Y ≤ q - 1 := by
  have h7 := kn_lt h
  rcases hc with hc | hc
  · omega
  · have h8 := kn_side h hr.1
    have hY : 0 < Y := by obtain ⟨hY, h0, h1, h2, h3⟩ := h; omega
    have hq : (u * 4294967296 + d) / Y * Y ≤ u * 4294967296 + d := Int.ediv_mul_le _ (by omega)
    have : (u * 4294967296 + d) / Y < q := Int.lt_of_mul_lt_mul_right (a := Y) (by omega) (by omega)
    omega
theorem kn_next {u d Y y1 y0 q r : Int} (h : Kn u d Y y1 y0) (hr : KnR u d Y y1 q r) (hc : 4294967296 ≤ q ∨ r * 4294967296 + d < q * y0) (hb : r + y1 < 4294967296) : KnR u d Y y1 (q - 1) (r + y1) := by
  have h7 := kn_over h hr hc
  obtain ⟨hY, h0, h1, h2, h3⟩ := h
  have h8 : 0 ≤ (u * 4294967296 + d) / Y := Int.ediv_nonneg (by omega) (by omega)
  obtain ⟨e, h4, h5, h6⟩ := hr
  refine ⟨?_, by omega, by omega, h7⟩
  rw [Int.sub_mul]
  omega
theorem kn_end {u d Y y1 y0 q r : Int} (h : Kn u d Y y1 y0) (hr : KnR u d Y y1 q r) (hc : q * y0 ≤ r * 4294967296 + d) : q = (u * 4294967296 + d) / Y := by
  have h8 := kn_side h hr.1
  obtain ⟨hY, h0, h1, h2, h3⟩ := h
  have : q ≤ (u * 4294967296 + d) / Y := Int.le_ediv_of_mul_le (by omega) (by omega)
  have := hr.2.2.2
  omega
theorem kn_break {u d Y y1 y0 q r : Int} (h : Kn u d Y y1 y0) (hr : KnR u d Y y1 q r) (hc : 4294967296 ≤ q ∨ r * 4294967296 + d < q * y0) (hb : 4294967296 ≤ r + y1) : q - 1 = (u * 4294967296 + d) / Y := by
  have h7 := kn_over h hr hc
  have e2 : (q - 1) * y1 + (r + y1) = u := by rw [Int.sub_mul]; have := hr.1; omega
  have h8 := kn_side h e2
  obtain ⟨hY, h0, h1, h2, h3⟩ := h
  have hQ : 0 ≤ (u * 4294967296 + d) / Y := Int.ediv_nonneg (by omega) (by omega)
  have hq : q - 1 < 4294967296 := by
    rcases Int.lt_or_le (q - 1) 4294967296 with h | h
    · exact h
    · exfalso
      have : 4294967296 * y1 ≤ (q - 1) * y1 := Int.mul_le_mul_of_nonneg_right h (by omega)
      omega
  have h9 : (q - 1) * y0 ≤ 4294967296 * 4294967296 := Int.mul_le_mul (by omega) (by omega) (by omega) (by omega)
  have : q - 1 ≤ (u * 4294967296 + d) / Y := Int.le_ediv_of_mul_le (by omega) (by omega)
  omega
/-- what is left, in a word -/
theorem kn_rest {u d Y y1 y0 : Int} (h : Kn u d Y y1 y0) (hY : Y < 18446744073709551616) :
    ((u * 4294967296 % 18446744073709551616 + d) % 18446744073709551616 - (u * 4294967296 + d) / Y * Y % 18446744073709551616) % 18446744073709551616 = (u * 4294967296 + d) % Y := by
  have hpos : 0 < Y := by obtain ⟨_, _, _, h2, _⟩ := h; omega
  have e := Int.mul_ediv_add_emod (u * 4294967296 + d) Y
  have m1 := Int.emod_nonneg (u * 4294967296 + d) (show Y ≠ 0 by omega)
  have m2 := Int.emod_lt_of_pos (u * 4294967296 + d) hpos
  rw [Int.mul_comm] at e
  generalize (u * 4294967296 + d) / Y * Y = z at *
  generalize (u * 4294967296 + d) % Y = m at *
  omega

theorem shl_facts (hi lo y : Int) (s : Nat) (hs : s ≤ 63) (h0 : 0 < hi) (h1 : hi < y) (h3 : 0 ≤ lo) (h4 : lo < 18446744073709551616) (hy2 : y * 2 ^ s < 18446744073709551616) :
    ∃ u t, bits .or .u64 (IntKind.u64.wrap (hi * 2 ^ s)) (lo / 2 ^ (64 - s)) = u ∧ IntKind.u64.wrap (lo * 2 ^ s) = t ∧ (0 ≤ t ∧ t < 18446744073709551616) ∧ (0 ≤ u ∧ u < y * 2 ^ s) ∧ wd u t = wd hi lo * 2 ^ s := by
  obtain ⟨a, rfl⟩ := Int.eq_ofNat_of_zero_le (show 0 ≤ hi by omega)
  obtain ⟨b, rfl⟩ := Int.eq_ofNat_of_zero_le h3
  have hp : 0 < (2 : Int) ^ s := Int.pow_pos (by omega)
  have hA : (a : Int) * 2 ^ s < y * 2 ^ s := Int.mul_lt_mul_of_pos_right h1 hp
  have hA0 : 0 ≤ (a : Int) * 2 ^ s := Int.mul_nonneg (by omega) (by omega)
  have e1 : IntKind.u64.wrap ((a : Int) * 2 ^ s) = (a : Int) * 2 ^ s := by rw [IntKind.wrap_u64]; omega
  have ep : ((2 : Int) ^ s) = ((2 ^ s : Nat) : Int) := by rw [Int.natCast_pow]; rfl
  have ep2 : ((2 : Int) ^ (64 - s)) = ((2 ^ (64 - s) : Nat) : Int) := by rw [Int.natCast_pow]; rfl
  have ew : (2 : Nat) ^ s * 2 ^ (64 - s) = 18446744073709551616 := by
    rw [← Nat.pow_add, show s + (64 - s) = 64 by omega]
  have hdiv : b / 2 ^ (64 - s) < 2 ^ s := by
    rw [Nat.div_lt_iff_lt_mul (Nat.two_pow_pos _), ew]
    omega
  have ed : ((b : Int)) / 2 ^ (64 - s) = ((b / 2 ^ (64 - s) : Nat) : Int) := by rw [ep2]; rfl
  have ea : ((a : Int)) * 2 ^ s = ((a * 2 ^ s : Nat) : Int) := by rw [ep, Int.natCast_mul]
  have hlt : a * 2 ^ s < 18446744073709551616 := by omega
  have hb2 : b / 2 ^ (64 - s) < 18446744073709551616 := Nat.lt_of_le_of_lt (Nat.div_le_self _ _) (by omega)
  have eor : bits .or .u64 (IntKind.u64.wrap ((a : Int) * 2 ^ s)) ((b : Int) / 2 ^ (64 - s)) = ((a * 2 ^ s + b / 2 ^ (64 - s) : Nat) : Int) := by
    rw [e1, ea, ed, u64_or_nat _ _ hlt hb2]
    congr 1
    have := Nat.shiftLeft_add_eq_or_of_lt hdiv a
    rw [Nat.shiftLeft_eq] at this
    exact this.symm
  refine ⟨_, _, eor, rfl, by rw [IntKind.wrap_u64]; omega, ?_, ?_⟩
  · refine ⟨Int.natCast_nonneg _, ?_⟩
    have h5 : (a + 1 : Int) * 2 ^ s ≤ y * 2 ^ s := Int.mul_le_mul_of_nonneg_right (by omega) (by omega)
    rw [Int.add_mul, Int.one_mul] at h5
    rw [Int.natCast_add, ← ea]
    omega
  · rw [IntKind.wrap_u64]
    have e3 : b * 2 ^ s / 18446744073709551616 = b / 2 ^ (64 - s) := by
      rw [← ew, Nat.mul_comm (2 ^ s) (2 ^ (64 - s)), Nat.mul_div_mul_right _ _ (Nat.two_pow_pos s)]
    have eb : ((b : Int)) * 2 ^ s = ((b * 2 ^ s : Nat) : Int) := by rw [ep, Int.natCast_mul]
    unfold wd
    rw [Int.add_mul, eb, Int.natCast_add, ← ea]
    have e4 : ((b / 2 ^ (64 - s) : Nat) : Int) = ((b * 2 ^ s : Nat) : Int) / 18446744073709551616 := by rw [← e3]; rfl
    rw [e4, show (a : Int) * 18446744073709551616 * 2 ^ s = (a : Int) * 2 ^ s * 18446744073709551616 by rw [Int.mul_assoc, Int.mul_comm 18446744073709551616, ← Int.mul_assoc]]
    omega

theorem div64_fin (V y U Y Q R : Int) (s : Nat) (hU : U = V * 2 ^ s) (hY : Y = y * 2 ^ s) (e : Q * Y + R = U) (hR : 0 ≤ R ∧ R < Y) (hy : 0 < y) : Q = V / y ∧ R / 2 ^ s = V % y := by
  have hp : 0 < (2 : Int) ^ s := Int.pow_pos (by omega)
  generalize (2 : Int) ^ s = p at *
  have e2 : R = (V - Q * y) * p := by rw [Int.sub_mul, ← hU, ← e, hY]; grind
  have h1 : 0 ≤ V - Q * y := Int.le_of_mul_le_mul_right (a := p) (by rw [← e2]; omega) hp
  have h2 : V - Q * y < y := Int.lt_of_mul_lt_mul_right (a := p) (by rw [← e2, ← hY]; exact hR.2) (by omega)
  have h3 := (Int.ediv_emod_unique (a := V) (b := y) (r := V - Q * y) (q := Q) hy).2 ⟨by rw [Int.mul_comm y Q]; omega, h1, h2⟩
  refine ⟨h3.1.symm, ?_⟩
  rw [h3.2, e2, Int.mul_ediv_cancel _ (by omega)]

theorem div64_sum (u t d1 d0 Q1 R1 Q0 R0 Y : Int) (h1 : Q1 * Y + R1 = u * 4294967296 + d1) (h0 : Q0 * Y + R0 = R1 * 4294967296 + d0) (ht : d1 * 4294967296 + d0 = t) : (Q1 * 4294967296 + Q0) * Y + R0 = wd u t := by
  unfold wd
  rw [← ht]
  grind

set_option maxHeartbeats 4000000 in
theorem xdiv64_pos (hi lo y : Int) (w : World) (h0 : 0 < hi) (h1 : hi < y) (h2 : y < 18446744073709551616) (h3 : 0 ≤ lo) (h4 : lo < 18446744073709551616) :
    Calls Tryz.prog 77 #[.int .u64 hi, .int .u64 lo, .int .u64 y] w fun e w' => e = .returned (.tuple #[.int .u64 (wd hi lo / y), .int .u64 (wd hi lo % y)]) ∧ ∃ m, w' = w.drewN m := by
  have g0 : (y == 0) = false := by simp; omega
  have g1 : (hi == 0) = false := by simp; omega
  have g2 : ¬ y ≤ hi := by omega
  go_enter Tryz.func77, Tryz.ntmps77
  go_wp2_with fail
  refine (xlz64 y _ (by omega) (by omega)).mono ?_
  rintro e w1 ⟨rfl, rfl⟩
  obtain ⟨s, hs, es, hy1, hy2⟩ := lz_spec y (by omega) (by omega)
  rw [es]
  clear es
  have hs' : (s : Int) ≤ 63 := by omega
  obtain ⟨u, t, eu, et, bt, bu, hut⟩ := shl_facts hi lo y s hs h0 h1 h3 h4 hy2
  have EU : Hid _ := eu
  have ET : Hid _ := et
  have HUT : Hid _ := hut
  clear eu et hut
  go_upto_block 0 with fail
  rw [EU.out, ET.out]
  generalize hY : y * 2 ^ s = Y at *
  have HY : Hid _ := hY
  clear hY
  rw [and_low32 Y (by omega) hy2, and_low32 t bt.1 bt.2]
  have hkn1 : Kn u (t / 4294967296) Y (Y / 4294967296) (Y % 4294967296) := ⟨by omega, by omega, by omega, bu, by omega⟩
  have hst := kn_start hkn1
  rw [show IntKind.u64.wrap (u.tdiv (Y / 4294967296)) = u / (Y / 4294967296) from by
    rw [Int.tdiv_eq_ediv_of_nonneg bu.1, IntKind.wrap_u64]
    have := hst.2.1
    omega]
  rw [show IntKind.u64.wrap (u - IntKind.u64.wrap (u / (Y / 4294967296) * (Y / 4294967296))) = u % (Y / 4294967296) from by
    have h5 := hst.1
    have h6 := hst.2.2.1
    generalize u / (Y / 4294967296) * (Y / 4294967296) = z at *
    rw [IntKind.wrap_u64, IntKind.wrap_u64]
    omega]
  have hy1b : 2147483648 ≤ Y / 4294967296 ∧ Y / 4294967296 < 4294967296 := by omega
  have hy0b : 0 ≤ Y % 4294967296 ∧ Y % 4294967296 < 4294967296 := by omega
  have hd1b : 0 ≤ t / 4294967296 ∧ t / 4294967296 < 4294967296 := by omega
  have hd0b : 0 ≤ t % 4294967296 ∧ t % 4294967296 < 4294967296 := by omega
  have htt : Hid (t / 4294967296 * 4294967296 + t % 4294967296 = t) := by unfold Hid; omega
  generalize Y / 4294967296 = y1 at *
  generalize Y % 4294967296 = y0 at *
  generalize t / 4294967296 = d1 at *
  generalize t % 4294967296 = d0 at *
  have hq0b := hst.2.1
  have hr0b := hst.2.2.1
  generalize u / y1 = q at *
  generalize u % y1 = r at *
  have Hkn1 : Hid (Kn u d1 Y y1 y0) := hkn1
  have Hst : Hid (KnR u d1 Y y1 q r) := hst
  clear hkn1 hst
  go_cut [15] (fun q1 wc => q1 = .int .u64 ((u * 4294967296 + d1) / Y) ∧ wc = w)
  case first =>
    go_wp2_with fail
    go_loop [15, 16] (fun qi ri => ∃ q r : Int, qi = .int .u64 q ∧ ri = .int .u64 r ∧ (0 ≤ q ∧ q ≤ 4294967297) ∧ (0 ≤ r ∧ r < 4294967296) ∧ Hid (KnR u d1 Y y1 q r))
      (fun qi _ => (intOf qi).toNat)
    case atStart => exact ⟨q, r, rfl, rfl, by omega, by omega, Hst.out⟩
    case round =>
      obtain ⟨q, r, rfl, rfl, bq, br, hr⟩ := hrel
      by_cases c1 : 4294967296 ≤ q
      · by_cases c2 : r + y1 < 4294967296
        · have hn := kn_next Hkn1.out hr.out (Or.inl c1) c2
          have Hn : Hid (KnR u d1 Y y1 (q - 1) (r + y1)) := hn
          clear hn
          go_wp2
          exact ⟨⟨q - 1, r + y1, rfl, rfl, by omega, by omega, Hn.out⟩, by simp [intOf]; omega⟩
        · have hn := kn_break Hkn1.out hr.out (Or.inl c1) (by omega)
          have Hn : Hid _ := hn
          clear hn
          go_wp2_with fail
          go_meet
          case rel => exact ⟨by rw [← Hn.out], rfl⟩
      · have hqy : 0 ≤ q * y0 ∧ q * y0 < 18446744073709551616 := by
          have h5 := Int.mul_le_mul (show q ≤ 4294967295 by omega) (show y0 ≤ 4294967295 by omega) hy0b.1 (by omega)
          exact ⟨Int.mul_nonneg bq.1 hy0b.1, by omega⟩
        by_cases c3 : r * 4294967296 + d1 < q * y0
        · have c3' : 4294967296 * r + d1 < q * y0 := by omega
          by_cases c2 : r + y1 < 4294967296
          · have hn := kn_next Hkn1.out hr.out (Or.inr c3) c2
            have hq1 : 0 ≤ q - 1 := hn.2.1.1
            have Hn : Hid (KnR u d1 Y y1 (q - 1) (r + y1)) := hn
            clear hn c3
            go_wp2
            exact ⟨⟨q - 1, r + y1, rfl, rfl, by omega, by omega, Hn.out⟩, by simp [intOf]; omega⟩
          · have hn := kn_break Hkn1.out hr.out (Or.inr c3) (by omega)
            have hq1 : 0 ≤ q - 1 := by rw [hn]; exact Int.ediv_nonneg (by omega) (by omega)
            have Hn : Hid _ := hn
            clear hn c3
            go_wp2_with fail
            go_meet
            case rel => exact ⟨by rw [← Hn.out], rfl⟩
        · have c3' : ¬ 4294967296 * r + d1 < q * y0 := by omega
          have hn := kn_end Hkn1.out hr.out (by omega)
          have Hn : Hid _ := hn
          clear hn c3
          go_wp2_with fail
          go_meet
          case rel => exact ⟨by rw [← Hn.out], rfl⟩
  case rest =>
    obtain ⟨rfl, rfl⟩ := hcut
    have hR1 := kn_rest Hkn1.out hy2
    have hQ1b : 0 ≤ (u * 4294967296 + d1) / Y ∧ (u * 4294967296 + d1) / Y < 4294967296 := ⟨Int.ediv_nonneg (by omega) (by omega), kn_lt Hkn1.out⟩
    have hR1b : 0 ≤ (u * 4294967296 + d1) % Y ∧ (u * 4294967296 + d1) % Y < Y := ⟨Int.emod_nonneg _ (by omega), Int.emod_lt_of_pos _ (by omega)⟩
    have hD1 : Hid ((u * 4294967296 + d1) / Y * Y + (u * 4294967296 + d1) % Y = u * 4294967296 + d1) := by unfold Hid; rw [Int.mul_comm]; exact Int.mul_ediv_add_emod _ _
    generalize (u * 4294967296 + d1) / Y = Q1 at *
    generalize (u * 4294967296 + d1) % Y = R1 at *
    have HR1 : Hid _ := hR1
    clear hR1 Hst hq0b hr0b
    go_upto_block 2 with fail
    rw [show IntKind.u64.wrap (IntKind.u64.wrap (IntKind.u64.wrap (u * 4294967296) + d1) - IntKind.u64.wrap (Q1 * Y)) = R1 from by
      simp only [IntKind.wrap_u64]
      exact HR1.out]
    have hkn2 : Kn R1 d0 Y y1 y0 := ⟨Hkn1.out.1, hy0b, hy1b, hR1b, hd0b⟩
    have hst2 := kn_start hkn2
    rw [show IntKind.u64.wrap (R1.tdiv y1) = R1 / y1 from by
      rw [Int.tdiv_eq_ediv_of_nonneg hR1b.1, IntKind.wrap_u64]
      have := hst2.2.1
      omega]
    rw [show IntKind.u64.wrap (R1 - IntKind.u64.wrap (R1 / y1 * y1)) = R1 % y1 from by
      have h5 := hst2.1
      have h6 := hst2.2.2.1
      generalize R1 / y1 * y1 = z at *
      rw [IntKind.wrap_u64, IntKind.wrap_u64]
      omega]
    have hq2b := hst2.2.1
    have hr2b := hst2.2.2.1
    generalize R1 / y1 = q2 at *
    generalize R1 % y1 = r2 at *
    have Hkn2 : Hid (Kn R1 d0 Y y1 y0) := hkn2
    have Hst2 : Hid (KnR R1 d0 Y y1 q2 r2) := hst2
    clear hkn2 hst2
    obtain ⟨w, rfl⟩ : ∃ w : World, w = wc := ⟨_, rfl⟩
    go_cut [18] (fun q1 wc => q1 = .int .u64 ((R1 * 4294967296 + d0) / Y) ∧ wc = w)
    case first =>
      go_wp2_with fail
      go_loop [18, 16] (fun qi ri => ∃ q r : Int, qi = .int .u64 q ∧ ri = .int .u64 r ∧ (0 ≤ q ∧ q ≤ 4294967297) ∧ (0 ≤ r ∧ r < 4294967296) ∧ Hid (KnR R1 d0 Y y1 q r))
        (fun qi _ => (intOf qi).toNat)
      case atStart => exact ⟨q2, r2, rfl, rfl, by omega, by omega, Hst2.out⟩
      case round =>
        obtain ⟨q, r, rfl, rfl, bq, br, hr⟩ := hrel
        by_cases c1 : 4294967296 ≤ q
        · by_cases c2 : r + y1 < 4294967296
          · have hn := kn_next Hkn2.out hr.out (Or.inl c1) c2
            have Hn : Hid (KnR R1 d0 Y y1 (q - 1) (r + y1)) := hn
            clear hn
            go_wp2
            exact ⟨⟨q - 1, r + y1, rfl, rfl, by omega, by omega, Hn.out⟩, by simp [intOf]; omega⟩
          · have hn := kn_break Hkn2.out hr.out (Or.inl c1) (by omega)
            have Hn : Hid _ := hn
            clear hn
            go_wp2_with fail
            go_meet
            case rel => exact ⟨by rw [← Hn.out], rfl⟩
        · have hqy : 0 ≤ q * y0 ∧ q * y0 < 18446744073709551616 := by
            have h5 := Int.mul_le_mul (show q ≤ 4294967295 by omega) (show y0 ≤ 4294967295 by omega) hy0b.1 (by omega)
            exact ⟨Int.mul_nonneg bq.1 hy0b.1, by omega⟩
          by_cases c3 : r * 4294967296 + d0 < q * y0
          · have c3' : 4294967296 * r + d0 < q * y0 := by omega
            by_cases c2 : r + y1 < 4294967296
            · have hn := kn_next Hkn2.out hr.out (Or.inr c3) c2
              have hq1 : 0 ≤ q - 1 := hn.2.1.1
              have Hn : Hid (KnR R1 d0 Y y1 (q - 1) (r + y1)) := hn
              clear hn c3
              go_wp2
              exact ⟨⟨q - 1, r + y1, rfl, rfl, by omega, by omega, Hn.out⟩, by simp [intOf]; omega⟩
            · have hn := kn_break Hkn2.out hr.out (Or.inr c3) (by omega)
              have hq1 : 0 ≤ q - 1 := by rw [hn]; exact Int.ediv_nonneg (by omega) (by omega)
              have Hn : Hid _ := hn
              clear hn c3
              go_wp2_with fail
              go_meet
              case rel => exact ⟨by rw [← Hn.out], rfl⟩
          · have c3' : ¬ 4294967296 * r + d0 < q * y0 := by omega
            have hn := kn_end Hkn2.out hr.out (by omega)
            have Hn : Hid _ := hn
            clear hn c3
            go_wp2_with fail
            go_meet
            case rel => exact ⟨by rw [← Hn.out], rfl⟩
    case rest =>
      obtain ⟨rfl, rfl⟩ := hcut
      have hR0 := kn_rest Hkn2.out hy2
      have hQ0b : 0 ≤ (R1 * 4294967296 + d0) / Y ∧ (R1 * 4294967296 + d0) / Y < 4294967296 := ⟨Int.ediv_nonneg (by omega) (by omega), kn_lt Hkn2.out⟩
      have hR0b : 0 ≤ (R1 * 4294967296 + d0) % Y ∧ (R1 * 4294967296 + d0) % Y < Y := ⟨Int.emod_nonneg _ (by omega), Int.emod_lt_of_pos _ (by omega)⟩
      have hD0 : Hid ((R1 * 4294967296 + d0) / Y * Y + (R1 * 4294967296 + d0) % Y = R1 * 4294967296 + d0) := by unfold Hid; rw [Int.mul_comm]; exact Int.mul_ediv_add_emod _ _
      generalize (R1 * 4294967296 + d0) / Y = Q0 at *
      generalize (R1 * 4294967296 + d0) % Y = R0 at *
      have HR0 : Hid _ := hR0
      clear hR0 Hst2 hq2b hr2b
      go_wp2
      go_ret2
      rw [show IntKind.u64.wrap (IntKind.u64.wrap (IntKind.u64.wrap (R1 * 4294967296) + d0) - IntKind.u64.wrap (Q0 * Y)) = R0 from by
        simp only [IntKind.wrap_u64]
        exact HR0.out]
      have hfin := div64_fin (wd hi lo) y (wd u t) Y (Q1 * 4294967296 + Q0) R0 s HUT.out HY.out.symm (div64_sum u t d1 d0 Q1 R1 Q0 R0 Y hD1.out hD0.out htt.out) hR0b (by omega)
      exact ⟨ret_two (by rw [← hfin.1]) (by rw [← hfin.2]), 0, rfl⟩

theorem xdiv64 : Div64Said := by
  intro hi lo y w h0 h1 h2 h3 h4
  by_cases hz : hi = 0
  · subst hz
    exact xdiv64_zero lo y w ⟨by omega, h2⟩ ⟨h3, h4⟩
  · exact xdiv64_pos hi lo y w (by omega) h1 h2 h3 h4
end Go.Proofs.YtdfadcbchiogjaaGreat.N1
