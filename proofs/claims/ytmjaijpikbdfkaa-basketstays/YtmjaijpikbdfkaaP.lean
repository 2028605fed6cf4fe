/- layer 14: Clone of a text, rules with lists of their own -/
import Derived.Test.YtmjaijpikbdfkaaO
import Derived.Test.YtmjaijpikbdfkaaShelf
import Derived.WalkKit
import Derived.ProofKit
import Derived.Handy
import Derived.WalkLawsBesides
import Derived.WalkSpells
import Derived.BigQuiet
import Derived.BigCall
import Derived.Deep.QuietTactic
import Derived.Deep.Light
import Derived.Deep.OwnRows
import Derived.Laws.AppendOwnNone
import Derived.Laws.Strings3
import Derived.Laws.RangeAny
import Derived.Deep.RegionWith
import Derived.Lib.BitFns
import Derived.Lib.Walk
import Derived.Lib.Strings
import Derived.Lib.OthersKept
import Derived.Deep.CutBlock
import Derived.Deep.DeepCutAuto
import Derived.Deep.LoopGhost
import Derived.Deep.RegionHeld3
import Derived.Lib.SmallJoins
import Derived.Maps.AppendAt
import Derived.Laws.IdiomStrings
import Derived.Lib.AppendZeros
import Derived.Deep.WholeRow
import Derived.Laws.BitsAllLaws
import Derived.Lib.ConvBytes
import Derived.Deep.RegionLaw
import Derived.Maps.OwnSet
import Derived.Maps.OwnOps
import Derived.Maps.RangeWalk
import Derived.Maps.Ext
import Derived.DeepKeys4
import Derived.Laws.StructEq
import Derived.Deep.MidRow
import Derived.Lib.Bytealg
import Derived.Lib.Overlaps
import Derived.Lib.AppendZerosOnto
import Derived.Laws.MakeOwn
import Derived.Deep.Upon
namespace Go.Proofs.Ytmjaijpikbdfkaa
open Go.RowKit
set_option linter.unusedVariables false
set_option linter.unusedSimpArgs false
set_option maxRecDepth 20000
theorem xclone (s : ByteArray) (hs : s.size ≤ 281474976710656) (w : World) : Calls Try.prog 56 #[.string s] w fun e w' => e = .returned (.string s) ∧ Below w.heap.size w w' := by
  have H : Hid (∀ w, Calls Try.prog 59 #[.string s] w fun e w' => e = .returned (.string s) ∧ Below w.heap.size w w') := fun w => Try.stringslite_Clone s w hs
  clear hs
  go_enter Try.func56, Try.ntmps56
  go_wp2_with (go_at_call 59; refine (H.out _).mono ?_; rintro e w1 ⟨rfl, hb⟩)
  go_ret
  exact ⟨rfl, hb⟩
theorem info53 : (Try.prog.info? 53).map (fun i => (i.zero, i.size, i.bytes)) = some (some (.agg #[.int .i64 0, .int .i64 0, .int .i64 0]), 3, 24) := by kernel_rfl
theorem info3 : (Try.prog.info? 3).map (fun i => (i.zero, i.size, i.bytes)) = some (some (.int .i64 0), 1, 8) := by kernel_rfl
theorem info25 : (Try.prog.info? 25).map (fun i => (i.zero, i.size, i.bytes)) = some (some (.agg #[.int .i64 0, .int .i64 0, .string ⟨#[]⟩, .int .i64 0, .int .i64 0, .int .i64 0, .slice none 0 0, .int .i64 0, .int .i64 0, .slice none 0 0]), 10, 120) := by kernel_rfl
theorem res25 {w : World} {g : Nat} {v0 v1 v2 v3 v4 v5 v6 v7 v8 v9 : Value} (h : Bx w g #[v0, v1, v2, v3, v4, v5, v6, v7, v8, v9] 25) : (loadVar 25 ⟨g, 0, none⟩).run Try.prog w = .ok (.agg #[v0, v1, v2, v3, v4, v5, v6, v7, v8, v9]) w :=
  run_loadVar_row w g 25 25 _ (0, 0) _ h Try.underlying25 rfl (by kernel_rfl)
def ten (w : World) (q : Nat) (v0 v1 v2 v3 v4 v5 v6 v7 v8 v9 : Value) : World := ((((((((((w.setCell ⟨q, 0, none⟩ v0).setCell ⟨q, 1, none⟩ v1).setCell ⟨q, 2, none⟩ v2).setCell ⟨q, 3, none⟩ v3).setCell ⟨q, 4, none⟩ v4).setCell ⟨q, 5, none⟩ v5).setCell ⟨q, 6, none⟩ v6).setCell ⟨q, 7, none⟩ v7).setCell ⟨q, 8, none⟩ v8).setCell ⟨q, 9, none⟩ v9)
set_option maxHeartbeats 4000000 in
theorem ten_bx {w : World} {q : Nat} {u0 u1 u2 u3 u4 u5 u6 u7 u8 u9 : Value} (h : Bx w q #[u0, u1, u2, u3, u4, u5, u6, u7, u8, u9] 25) (v0 v1 v2 v3 v4 v5 v6 v7 v8 v9 : Value) : Bx (ten w q v0 v1 v2 v3 v4 v5 v6 v7 v8 v9) q #[v0, v1, v2, v3, v4, v5, v6, v7, v8, v9] 25 := by
  have h0 : Bx (w.setCell ⟨q, 0, none⟩ v0) q #[v0, u1, u2, u3, u4, u5, u6, u7, u8, u9] 25 := h.setc 0 v0
  have h1 : Bx ((w.setCell ⟨q, 0, none⟩ v0).setCell ⟨q, 1, none⟩ v1) q #[v0, v1, u2, u3, u4, u5, u6, u7, u8, u9] 25 := h0.setc 1 v1
  have h2 : Bx (((w.setCell ⟨q, 0, none⟩ v0).setCell ⟨q, 1, none⟩ v1).setCell ⟨q, 2, none⟩ v2) q #[v0, v1, v2, u3, u4, u5, u6, u7, u8, u9] 25 := h1.setc 2 v2
  have h3 : Bx ((((w.setCell ⟨q, 0, none⟩ v0).setCell ⟨q, 1, none⟩ v1).setCell ⟨q, 2, none⟩ v2).setCell ⟨q, 3, none⟩ v3) q #[v0, v1, v2, v3, u4, u5, u6, u7, u8, u9] 25 := h2.setc 3 v3
  have h4 : Bx (((((w.setCell ⟨q, 0, none⟩ v0).setCell ⟨q, 1, none⟩ v1).setCell ⟨q, 2, none⟩ v2).setCell ⟨q, 3, none⟩ v3).setCell ⟨q, 4, none⟩ v4) q #[v0, v1, v2, v3, v4, u5, u6, u7, u8, u9] 25 := h3.setc 4 v4
  have h5 : Bx ((((((w.setCell ⟨q, 0, none⟩ v0).setCell ⟨q, 1, none⟩ v1).setCell ⟨q, 2, none⟩ v2).setCell ⟨q, 3, none⟩ v3).setCell ⟨q, 4, none⟩ v4).setCell ⟨q, 5, none⟩ v5) q #[v0, v1, v2, v3, v4, v5, u6, u7, u8, u9] 25 := h4.setc 5 v5
  have h6 : Bx (((((((w.setCell ⟨q, 0, none⟩ v0).setCell ⟨q, 1, none⟩ v1).setCell ⟨q, 2, none⟩ v2).setCell ⟨q, 3, none⟩ v3).setCell ⟨q, 4, none⟩ v4).setCell ⟨q, 5, none⟩ v5).setCell ⟨q, 6, none⟩ v6) q #[v0, v1, v2, v3, v4, v5, v6, u7, u8, u9] 25 := h5.setc 6 v6
  have h7 : Bx ((((((((w.setCell ⟨q, 0, none⟩ v0).setCell ⟨q, 1, none⟩ v1).setCell ⟨q, 2, none⟩ v2).setCell ⟨q, 3, none⟩ v3).setCell ⟨q, 4, none⟩ v4).setCell ⟨q, 5, none⟩ v5).setCell ⟨q, 6, none⟩ v6).setCell ⟨q, 7, none⟩ v7) q #[v0, v1, v2, v3, v4, v5, v6, v7, u8, u9] 25 := h6.setc 7 v7
  have h8 : Bx (((((((((w.setCell ⟨q, 0, none⟩ v0).setCell ⟨q, 1, none⟩ v1).setCell ⟨q, 2, none⟩ v2).setCell ⟨q, 3, none⟩ v3).setCell ⟨q, 4, none⟩ v4).setCell ⟨q, 5, none⟩ v5).setCell ⟨q, 6, none⟩ v6).setCell ⟨q, 7, none⟩ v7).setCell ⟨q, 8, none⟩ v8) q #[v0, v1, v2, v3, v4, v5, v6, v7, v8, u9] 25 := h7.setc 8 v8
  have h9 : Bx ((((((((((w.setCell ⟨q, 0, none⟩ v0).setCell ⟨q, 1, none⟩ v1).setCell ⟨q, 2, none⟩ v2).setCell ⟨q, 3, none⟩ v3).setCell ⟨q, 4, none⟩ v4).setCell ⟨q, 5, none⟩ v5).setCell ⟨q, 6, none⟩ v6).setCell ⟨q, 7, none⟩ v7).setCell ⟨q, 8, none⟩ v8).setCell ⟨q, 9, none⟩ v9) q #[v0, v1, v2, v3, v4, v5, v6, v7, v8, v9] 25 := h8.setc 9 v9
  exact h9
theorem ten_gr (w : World) (q : Nat) (v0 v1 v2 v3 v4 v5 v6 v7 v8 v9 : Value) : w.grownBy (ten w q v0 v1 v2 v3 v4 v5 v6 v7 v8 v9) (some q) := by
  unfold ten
  exact grown_trans (grown_trans (grown_trans (grown_trans (grown_trans (grown_trans (grown_trans (grown_trans (grown_trans (grown_set _ _ _ _) (grown_set _ _ _ _)) (grown_set _ _ _ _)) (grown_set _ _ _ _)) (grown_set _ _ _ _)) (grown_set _ _ _ _)) (grown_set _ _ _ _)) (grown_set _ _ _ _)) (grown_set _ _ _ _)) (grown_set _ _ _ _)
theorem grown_below {w w' : World} (g : w.grownBy w' none) : Below w.heap.size w w' := ⟨g.os, g.tape, g.output, g.size, fun k hk => g.block k hk (by simp)⟩
/-- append of all of a list to none -/
theorem app_cuts {w : World} {a : Option Addr} {xs : List Ct} (cap : Nat) (h : Cts w.heap.size w a xs) (hl : xs.length ≤ 1000000) : ∃ a' c' w', (Builtin.append_ #[22, 22] 22 #[.slice none 0 0, .slice a xs.length cap]).run Try.prog w = .ok (.slice a' xs.length c') w' ∧ Ow (fun k => w.heap.size ≤ k) w' 53 3 (.slice a' xs.length c') xs.length (rcs ccs xs) ∧ Below w.heap.size w w' := by
  obtain ⟨v', w', hr, ho, hg, hv⟩ := app_all (B := w.heap.size) Try.underlying22 info53 rfl (by omega) ccs_len ccs_one (World.ownsRow_nil w w.heap.size 53 3) (Nat.le_refl _) a cap xs h.rw (by omega) (by unfold maxLen; omega)
  rw [Nat.zero_add, List.nil_append] at ho
  obtain ⟨a', c', rfl, _⟩ := own_read ho ho.1
  refine ⟨a', c', w', hr, ⟨own_mono ho (Nat.zero_le _), fun g hg2 => ?_⟩, grown_below hg⟩
  rcases hv with e | e
  · rw [e] at hg2; cases hg2
  · rw [e] at hg2; injection hg2 with hg2; omega
theorem app_bars {w : World} {a : Option Addr} {xs : List Int} (cap : Nat) (h : Ins w.heap.size w a xs) (hl : xs.length ≤ 1000000) : ∃ a' c' w', (Builtin.append_ #[23, 23] 23 #[.slice none 0 0, .slice a xs.length cap]).run Try.prog w = .ok (.slice a' xs.length c') w' ∧ Ow (fun k => w.heap.size ≤ k) w' 3 1 (.slice a' xs.length c') xs.length (rcs ics xs) ∧ Below w.heap.size w w' := by
  obtain ⟨v', w', hr, ho, hg, hv⟩ := app_all (B := w.heap.size) Try.underlying23 info3 rfl (by omega) ics_len ics_one (World.ownsRow_nil w w.heap.size 3 1) (Nat.le_refl _) a cap xs h.rw (by omega) (by unfold maxLen; omega)
  rw [Nat.zero_add, List.nil_append] at ho
  obtain ⟨a', c', rfl, _⟩ := own_read ho ho.1
  refine ⟨a', c', w', hr, ⟨own_mono ho (Nat.zero_le _), fun g hg2 => ?_⟩, grown_below hg⟩
  rcases hv with e | e
  · rw [e] at hg2; cases hg2
  · rw [e] at hg2; injection hg2 with hg2; omega
def ApP (x : Bm) (w : World) (e : Ending) (w' : World) : Prop := ∃ y : Bm, e = .returned (.agg (bcs y).toArray) ∧ Hid (y.b = x.b ∧ Hx (fun k => w.heap.size ≤ k) w' y ∧ Below w.heap.size w w')
set_option maxHeartbeats 8000000 in
theorem xapart0 (i0 i1 i3 i4 i5 i7 i8 : Int) (s : ByteArray) (hs : s.size ≤ 281474976710656) (ca ba : Option Addr) (cc bc : Nat) (xs : List Ct) (ys : List Int) (w : World) (hC : Cts w.heap.size w ca xs) (hI : Ins w.heap.size w ba ys) (hlc : xs.length ≤ 1000000) (hlb : ys.length ≤ 1000000) (Q : Ending → World → Prop)
    (hQ : ∀ a c a2 c2 w', Ow (fun k => w.heap.size ≤ k) w' 53 3 (.slice a xs.length c) xs.length (rcs ccs xs) → Ow (fun k => w.heap.size ≤ k) w' 3 1 (.slice a2 ys.length c2) ys.length (rcs ics ys) → Below w.heap.size w w' → Q (.returned (.agg #[.int .i64 i0, .int .i64 i1, .string s, .int .i64 i3, .int .i64 i4, .int .i64 i5, .slice a xs.length c, .int .i64 i7, .int .i64 i8, .slice a2 ys.length c2])) w') : Calls Try.prog 44 #[.agg #[.int .i64 i0, .int .i64 i1, .string s, .int .i64 i3, .int .i64 i4, .int .i64 i5, .slice ca xs.length cc, .int .i64 i7, .int .i64 i8, .slice ba ys.length bc]] w Q := by
  obtain ⟨nc, hnc⟩ : ∃ nc, xs.length = nc := ⟨_, rfl⟩
  obtain ⟨nb, hnb⟩ : ∃ nb, ys.length = nb := ⟨_, rfl⟩
  have H1 : Hid (∀ w, Calls Try.prog 56 #[.string s] w fun e w' => e = .returned (.string s) ∧ Below w.heap.size w w') := fun w => xclone s hs w
  have H2 : Hid (∀ W, Below w.heap.size w W → ∃ a' c' w', (Builtin.append_ #[22, 22] 22 #[.slice none 0 0, .slice ca nc cc]).run Try.prog W = .ok (.slice a' nc c') w' ∧ Ow (fun k => w.heap.size ≤ k) w' 53 3 (.slice a' nc c') nc (rcs ccs xs) ∧ Below W.heap.size W w') := by
    intro W hW
    have h := app_cuts cc ((hC.keep hW).mono hW.size) hlc
    rw [hnc] at h
    obtain ⟨a', c', w', h1, h2, h3⟩ := h
    exact ⟨a', c', w', h1, h2.mono (fun k hk => Nat.le_trans hW.size hk), h3⟩
  have H3 : Hid (∀ W, Below w.heap.size w W → ∃ a' c' w', (Builtin.append_ #[23, 23] 23 #[.slice none 0 0, .slice ba nb bc]).run Try.prog W = .ok (.slice a' nb c') w' ∧ Ow (fun k => w.heap.size ≤ k) w' 3 1 (.slice a' nb c') nb (rcs ics ys) ∧ Below W.heap.size W w') := by
    intro W hW
    have h := app_bars bc ((hI.keep hW).mono hW.size) hlb
    rw [hnb] at h
    obtain ⟨a', c', w', h1, h2, h3⟩ := h
    exact ⟨a', c', w', h1, h2.mono (fun k hk => Nat.le_trans hW.size hk), h3⟩
  have HQ : Hid (∀ a c a2 c2 w', Ow (fun k => w.heap.size ≤ k) w' 53 3 (.slice a nc c) nc (rcs ccs xs) → Ow (fun k => w.heap.size ≤ k) w' 3 1 (.slice a2 nb c2) nb (rcs ics ys) → Below w.heap.size w w' → Q (.returned (.agg #[.int .i64 i0, .int .i64 i1, .string s, .int .i64 i3, .int .i64 i4, .int .i64 i5, .slice a nc c, .int .i64 i7, .int .i64 i8, .slice a2 nb c2])) w') := by
    rw [hnc, hnb] at hQ; exact hQ
  rw [hnc, hnb]
  rw [hnc] at hlc
  rw [hnb] at hlb
  clear hQ hC hI hs hnc hnb
  go_enter Try.func44, Try.ntmps44
  go_wp2_with fail
  obtain ⟨w0, hw0⟩ : ∃ w0, w0 = ((w.alloc (.cells #[.int .i64 i0, .int .i64 i1, .string s, .int .i64 i3, .int .i64 i4, .int .i64 i5, .slice ca nc cc, .int .i64 i7, .int .i64 i8, .slice ba nb bc] 25)).alloc (.cells #[.int .i64 0, .int .i64 0, .string ⟨#[]⟩, .int .i64 0, .int .i64 0, .int .i64 0, .slice none 0 0, .int .i64 0, .int .i64 0, .slice none 0 0] 25)) := ⟨_, rfl⟩
  have HX0 : Hid (Bx w0 w.heap.size #[.int .i64 i0, .int .i64 i1, .string s, .int .i64 i3, .int .i64 i4, .int .i64 i5, .slice ca nc cc, .int .i64 i7, .int .i64 i8, .slice ba nb bc] 25) := by rw [hw0]; exact (Bx.new w _ _).kept (World.grownBy_alloc _ _ none) (by simp)
  have HX1 : Hid (Bx w0 (w.heap.size + 1) #[.int .i64 0, .int .i64 0, .string ⟨#[]⟩, .int .i64 0, .int .i64 0, .int .i64 0, .slice none 0 0, .int .i64 0, .int .i64 0, .slice none 0 0] 25) := by
    have := Bx.new (w.alloc (.cells #[.int .i64 i0, .int .i64 i1, .string s, .int .i64 i3, .int .i64 i4, .int .i64 i5, .slice ca nc cc, .int .i64 i7, .int .i64 i8, .slice ba nb bc] 25)) #[.int .i64 0, .int .i64 0, .string ⟨#[]⟩, .int .i64 0, .int .i64 0, .int .i64 0, .slice none 0 0, .int .i64 0, .int .i64 0, .slice none 0 0] 25
    rw [World.size_alloc] at this
    rw [hw0]
    exact this
  have HB : Hid (Below w.heap.size w w0) := by rw [hw0]; exact ((Below.refl _ w).alloc (Nat.le_refl _) _).alloc (by simp) _
  rw [← hw0]
  clear hw0
  refine (H1.out _).mono ?_
  rintro e w1 ⟨rfl, hb⟩
  have HY0 := HX0.out.keep hb
  have HY1 := HX1.out.keep hb
  have HB1 : Hid (Below w.heap.size w w1) := HB.out.trans (hb.mono HB.out.size)
  have HY2 : Hid (Bx (w1.setCell ⟨w.heap.size, 2, none⟩ (.string s)) w.heap.size #[.int .i64 i0, .int .i64 i1, .string s, .int .i64 i3, .int .i64 i4, .int .i64 i5, .slice ca nc cc, .int .i64 i7, .int .i64 i8, .slice ba nb bc] 25) := HY0.setc 2 (.string s)
  have HY3 : Hid (Bx (w1.setCell ⟨w.heap.size, 2, none⟩ (.string s)) (w.heap.size + 1) #[.int .i64 0, .int .i64 0, .string ⟨#[]⟩, .int .i64 0, .int .i64 0, .int .i64 0, .slice none 0 0, .int .i64 0, .int .i64 0, .slice none 0 0] 25) := HY1.oset (c := w.heap.size) (by omega) 2 (.string s)
  have HB2 : Hid (Below w.heap.size w (w1.setCell ⟨w.heap.size, 2, none⟩ (.string s))) := HB1.out.setCell (p := ⟨w.heap.size, 2, none⟩) (Nat.le_refl _) _
  have c2 : w1.cell? ⟨w.heap.size, 2, none⟩ = some (.string s) := HY0.cell 2
  have f2 : w1.frozen? ⟨w.heap.size, 2, none⟩ = false := HY0.froz 2
  clear HX0 HX1 HB HY0 HY1 hb H1 HB1
  go_upto_region 2 with fail
  obtain ⟨w2, hw2⟩ : ∃ w2, w2 = w1.setCell ⟨w.heap.size, 2, none⟩ (.string s) := ⟨_, rfl⟩
  rw [← hw2] at HY2 HY3 HB2 ⊢
  clear hw2 c2 f2
  obtain ⟨a6, k6, w3, hr3, HO3, hb3⟩ := H2.out w2 HB2.out
  have k1 : w2.cell? ⟨w.heap.size, 6, none⟩ = some (.slice ca nc cc) := HY2.out.cell 6
  have HZ0 := HY2.out.keep hb3
  have HZ1 := HY3.out.keep hb3
  have HB3 : Hid (Below w.heap.size w w3) := HB2.out.trans (hb3.mono HB2.out.size)
  have HR3 : Hid ((Builtin.append_ #[22, 22] 22 #[.slice none 0 0, .slice ca nc cc]).run Try.prog w2 = .ok (.slice a6 nc k6) w3) := hr3
  have k2 : w3.cell? ⟨w.heap.size, 6, none⟩ = some (.slice ca nc cc) := HZ0.cell 6
  have k3 : w3.frozen? ⟨w.heap.size, 6, none⟩ = false := HZ0.froz 6
  have HY4 : Hid (Bx (w3.setCell ⟨w.heap.size, 6, none⟩ (.slice a6 nc k6)) w.heap.size #[.int .i64 i0, .int .i64 i1, .string s, .int .i64 i3, .int .i64 i4, .int .i64 i5, .slice a6 nc k6, .int .i64 i7, .int .i64 i8, .slice ba nb bc] 25) := HZ0.setc 6 (.slice a6 nc k6)
  have HY5 : Hid (Bx (w3.setCell ⟨w.heap.size, 6, none⟩ (.slice a6 nc k6)) (w.heap.size + 1) #[.int .i64 0, .int .i64 0, .string ⟨#[]⟩, .int .i64 0, .int .i64 0, .int .i64 0, .slice none 0 0, .int .i64 0, .int .i64 0, .slice none 0 0] 25) := HZ1.oset (c := w.heap.size) (by omega) 6 (.slice a6 nc k6)
  have HB4 : Hid (Below w.heap.size w (w3.setCell ⟨w.heap.size, 6, none⟩ (.slice a6 nc k6))) := HB3.out.setCell (p := ⟨w.heap.size, 6, none⟩) (Nat.le_refl _) _
  have HO4 : Hid (Ow (fun k => w.heap.size ≤ k) (w3.setCell ⟨w.heap.size, 6, none⟩ (.slice a6 nc k6)) 53 3 (.slice a6 nc k6) nc (rcs ccs xs)) := HO3.grown (grown_set _ _ _ _) (fun q hq => by injection hq with hq; subst hq; exact fun e => HZ0.no HO3 (by decide) e.symm)
  clear HY2 HY3 HB2 H2 hr3 HO3 hb3 HZ0 HZ1 HB3
  go_upto_region 3 with (at_builtin; refine Lib.wpList_append_run _ rfl _ _ 22 22 rfl _ _ rfl rfl _ w3 HR3.out ?_)
  obtain ⟨w4, hw4⟩ : ∃ w4, w4 = w3.setCell ⟨w.heap.size, 6, none⟩ (.slice a6 nc k6) := ⟨_, rfl⟩
  rw [← hw4] at HY4 HY5 HB4 HO4 ⊢
  clear hw4 k1 k2 k3 HR3
  obtain ⟨a9, k9, w5, hr5, HO5, hb5⟩ := H3.out w4 HB4.out
  have k1 : w4.cell? ⟨w.heap.size, 9, none⟩ = some (.slice ba nb bc) := HY4.out.cell 9
  have HZ0 := HY4.out.keep hb5
  have HZ1 := HY5.out.keep hb5
  have HB5 : Hid (Below w.heap.size w w5) := HB4.out.trans (hb5.mono HB4.out.size)
  have HR5 : Hid ((Builtin.append_ #[23, 23] 23 #[.slice none 0 0, .slice ba nb bc]).run Try.prog w4 = .ok (.slice a9 nb k9) w5) := hr5
  have k2 : w5.cell? ⟨w.heap.size, 9, none⟩ = some (.slice ba nb bc) := HZ0.cell 9
  have k3 : w5.frozen? ⟨w.heap.size, 9, none⟩ = false := HZ0.froz 9
  have HY6 : Hid (Bx (w5.setCell ⟨w.heap.size, 9, none⟩ (.slice a9 nb k9)) w.heap.size #[.int .i64 i0, .int .i64 i1, .string s, .int .i64 i3, .int .i64 i4, .int .i64 i5, .slice a6 nc k6, .int .i64 i7, .int .i64 i8, .slice a9 nb k9] 25) := HZ0.setc 9 (.slice a9 nb k9)
  have HY7 : Hid (Bx (w5.setCell ⟨w.heap.size, 9, none⟩ (.slice a9 nb k9)) (w.heap.size + 1) #[.int .i64 0, .int .i64 0, .string ⟨#[]⟩, .int .i64 0, .int .i64 0, .int .i64 0, .slice none 0 0, .int .i64 0, .int .i64 0, .slice none 0 0] 25) := HZ1.oset (c := w.heap.size) (by omega) 9 (.slice a9 nb k9)
  have HB6 : Hid (Below w.heap.size w (w5.setCell ⟨w.heap.size, 9, none⟩ (.slice a9 nb k9))) := HB5.out.setCell (p := ⟨w.heap.size, 9, none⟩) (Nat.le_refl _) _
  have HO6 : Hid (Ow (fun k => w.heap.size ≤ k) (w5.setCell ⟨w.heap.size, 9, none⟩ (.slice a9 nb k9)) 53 3 (.slice a6 nc k6) nc (rcs ccs xs)) := by
    have h := HO4.out.ag (.of_below hb5)
    exact h.grown (grown_set _ _ _ _) (fun q hq => by injection hq with hq; subst hq; exact fun e => HZ0.no h (by decide) e.symm)
  have HO7 : Hid (Ow (fun k => w.heap.size ≤ k) (w5.setCell ⟨w.heap.size, 9, none⟩ (.slice a9 nb k9)) 3 1 (.slice a9 nb k9) nb (rcs ics ys)) := HO5.grown (grown_set _ _ _ _) (fun q hq => by injection hq with hq; subst hq; exact fun e => HZ0.no HO5 (by decide) e.symm)
  clear HY4 HY5 HB4 H3 hr5 HO5 hb5 HZ0 HZ1 HB5 HO4
  go_upto_region 4 with (at_builtin; refine Lib.wpList_append_run _ rfl _ _ 23 23 rfl _ _ rfl rfl _ w5 HR5.out ?_)
  obtain ⟨w6, hw6⟩ : ∃ w6, w6 = w5.setCell ⟨w.heap.size, 9, none⟩ (.slice a9 nb k9) := ⟨_, rfl⟩
  rw [← hw6] at HY6 HY7 HB6 HO6 HO7 ⊢
  clear hw6 k1 k2 k3 HR5
  have c0 : w6.cell? ⟨w.heap.size, 0, none⟩ = some (.int .i64 i0) := HY6.out.cell 0
  have c1 : w6.cell? ⟨w.heap.size, 1, none⟩ = some (.int .i64 i1) := HY6.out.cell 1
  have c2 : w6.cell? ⟨w.heap.size, 2, none⟩ = some (.string s) := HY6.out.cell 2
  have c3 : w6.cell? ⟨w.heap.size, 3, none⟩ = some (.int .i64 i3) := HY6.out.cell 3
  have c4 : w6.cell? ⟨w.heap.size, 4, none⟩ = some (.int .i64 i4) := HY6.out.cell 4
  have c5 : w6.cell? ⟨w.heap.size, 5, none⟩ = some (.int .i64 i5) := HY6.out.cell 5
  have c6 : w6.cell? ⟨w.heap.size, 6, none⟩ = some (.slice a6 nc k6) := HY6.out.cell 6
  have c7 : w6.cell? ⟨w.heap.size, 7, none⟩ = some (.int .i64 i7) := HY6.out.cell 7
  have c8 : w6.cell? ⟨w.heap.size, 8, none⟩ = some (.int .i64 i8) := HY6.out.cell 8
  have c9 : w6.cell? ⟨w.heap.size, 9, none⟩ = some (.slice a9 nb k9) := HY6.out.cell 9
  have d0 : w6.cell? ⟨w.heap.size + 1, 0, none⟩ = some (.int .i64 0) := HY7.out.cell 0
  have g0 : w6.frozen? ⟨w.heap.size + 1, 0, none⟩ = false := HY7.out.froz 0
  have d1 : w6.cell? ⟨w.heap.size + 1, 1, none⟩ = some (.int .i64 0) := HY7.out.cell 1
  have g1 : w6.frozen? ⟨w.heap.size + 1, 1, none⟩ = false := HY7.out.froz 1
  have d2 : w6.cell? ⟨w.heap.size + 1, 2, none⟩ = some (.string ⟨#[]⟩) := HY7.out.cell 2
  have g2 : w6.frozen? ⟨w.heap.size + 1, 2, none⟩ = false := HY7.out.froz 2
  have d3 : w6.cell? ⟨w.heap.size + 1, 3, none⟩ = some (.int .i64 0) := HY7.out.cell 3
  have g3 : w6.frozen? ⟨w.heap.size + 1, 3, none⟩ = false := HY7.out.froz 3
  have d4 : w6.cell? ⟨w.heap.size + 1, 4, none⟩ = some (.int .i64 0) := HY7.out.cell 4
  have g4 : w6.frozen? ⟨w.heap.size + 1, 4, none⟩ = false := HY7.out.froz 4
  have d5 : w6.cell? ⟨w.heap.size + 1, 5, none⟩ = some (.int .i64 0) := HY7.out.cell 5
  have g5 : w6.frozen? ⟨w.heap.size + 1, 5, none⟩ = false := HY7.out.froz 5
  have d6 : w6.cell? ⟨w.heap.size + 1, 6, none⟩ = some (.slice none 0 0) := HY7.out.cell 6
  have g6 : w6.frozen? ⟨w.heap.size + 1, 6, none⟩ = false := HY7.out.froz 6
  have d7 : w6.cell? ⟨w.heap.size + 1, 7, none⟩ = some (.int .i64 0) := HY7.out.cell 7
  have g7 : w6.frozen? ⟨w.heap.size + 1, 7, none⟩ = false := HY7.out.froz 7
  have d8 : w6.cell? ⟨w.heap.size + 1, 8, none⟩ = some (.int .i64 0) := HY7.out.cell 8
  have g8 : w6.frozen? ⟨w.heap.size + 1, 8, none⟩ = false := HY7.out.froz 8
  have d9 : w6.cell? ⟨w.heap.size + 1, 9, none⟩ = some (.slice none 0 0) := HY7.out.cell 9
  have g9 : w6.frozen? ⟨w.heap.size + 1, 9, none⟩ = false := HY7.out.froz 9
  have HT : Hid (Bx (ten w6 (w.heap.size + 1) (.int .i64 i0) (.int .i64 i1) (.string s) (.int .i64 i3) (.int .i64 i4) (.int .i64 i5) (.slice a6 nc k6) (.int .i64 i7) (.int .i64 i8) (.slice a9 nb k9)) (w.heap.size + 1) #[.int .i64 i0, .int .i64 i1, .string s, .int .i64 i3, .int .i64 i4, .int .i64 i5, .slice a6 nc k6, .int .i64 i7, .int .i64 i8, .slice a9 nb k9] 25) := ten_bx HY7.out _ _ _ _ _ _ _ _ _ _
  have HTB : Hid (Below w.heap.size w (ten w6 (w.heap.size + 1) (.int .i64 i0) (.int .i64 i1) (.string s) (.int .i64 i3) (.int .i64 i4) (.int .i64 i5) (.slice a6 nc k6) (.int .i64 i7) (.int .i64 i8) (.slice a9 nb k9))) := by
    have g := ten_gr w6 (w.heap.size + 1) (.int .i64 i0) (.int .i64 i1) (.string s) (.int .i64 i3) (.int .i64 i4) (.int .i64 i5) (.slice a6 nc k6) (.int .i64 i7) (.int .i64 i8) (.slice a9 nb k9)
    refine ⟨g.os.trans HB6.out.os, g.tape.trans HB6.out.tape, g.output.trans HB6.out.output, Nat.le_trans HB6.out.size g.size, fun k hk => (g.block k (Nat.lt_of_lt_of_le hk HB6.out.size) (fun e => ?_)).trans (HB6.out.block k hk)⟩
    injection e with e
    omega
  have HT6 : Hid (Ow (fun k => w.heap.size ≤ k) (ten w6 (w.heap.size + 1) (.int .i64 i0) (.int .i64 i1) (.string s) (.int .i64 i3) (.int .i64 i4) (.int .i64 i5) (.slice a6 nc k6) (.int .i64 i7) (.int .i64 i8) (.slice a9 nb k9)) 53 3 (.slice a6 nc k6) nc (rcs ccs xs)) := HO6.out.grown (ten_gr _ _ _ _ _ _ _ _ _ _ _ _) (fun q hq => by injection hq with hq; subst hq; exact fun e => HY7.out.no HO6.out (by decide) e.symm)
  have HT7 : Hid (Ow (fun k => w.heap.size ≤ k) (ten w6 (w.heap.size + 1) (.int .i64 i0) (.int .i64 i1) (.string s) (.int .i64 i3) (.int .i64 i4) (.int .i64 i5) (.slice a6 nc k6) (.int .i64 i7) (.int .i64 i8) (.slice a9 nb k9)) 3 1 (.slice a9 nb k9) nb (rcs ics ys)) := HO7.out.grown (ten_gr _ _ _ _ _ _ _ _ _ _ _ _) (fun q hq => by injection hq with hq; subst hq; exact fun e => HY7.out.no HO7.out (by decide) e.symm)
  clear HY6 HY7 HB6 HO6 HO7
  go_wp2_with fail
  rw [show ((((((((((w6.setCell ⟨w.heap.size + 1, 0, none⟩ (.int .i64 i0)).setCell ⟨w.heap.size + 1, 1, none⟩ (.int .i64 i1)).setCell ⟨w.heap.size + 1, 2, none⟩ (.string s)).setCell ⟨w.heap.size + 1, 3, none⟩ (.int .i64 i3)).setCell ⟨w.heap.size + 1, 4, none⟩ (.int .i64 i4)).setCell ⟨w.heap.size + 1, 5, none⟩ (.int .i64 i5)).setCell ⟨w.heap.size + 1, 6, none⟩ (.slice a6 nc k6)).setCell ⟨w.heap.size + 1, 7, none⟩ (.int .i64 i7)).setCell ⟨w.heap.size + 1, 8, none⟩ (.int .i64 i8)).setCell ⟨w.heap.size + 1, 9, none⟩ (.slice a9 nb k9)) = ten w6 (w.heap.size + 1) (.int .i64 i0) (.int .i64 i1) (.string s) (.int .i64 i3) (.int .i64 i4) (.int .i64 i5) (.slice a6 nc k6) (.int .i64 i7) (.int .i64 i8) (.slice a9 nb k9) from rfl]
  generalize ten w6 (w.heap.size + 1) (.int .i64 i0) (.int .i64 i1) (.string s) (.int .i64 i3) (.int .i64 i4) (.int .i64 i5) (.slice a6 nc k6) (.int .i64 i7) (.int .i64 i8) (.slice a9 nb k9) = w7 at *
  refine bodyPost_ret (res_cell _ _ 2 25 _ _ _ rfl rfl (res25 HT.out)) rfl ?_
  exact HQ.out _ _ _ _ _ HT6.out HT7.out HTB.out
theorem xapart (x : Bm) (hs : x.b.cur.length ≤ 281474976710656) (w : World) (h : Ha w.heap.size w x) (hlc : x.b.cuts.length ≤ 1000000) (hlb : x.b.bar.length ≤ 1000000) : Calls Try.prog 44 #[.agg (bcs x).toArray] w (ApP x w) :=
  xapart0 x.b.id x.b.ver x.b.rat x.b.least x.b.most x.b.iss x.b.ass ⟨x.b.cur.toArray⟩ (by simpa [ByteArray.size] using hs) x.ca x.ba x.cc x.bc x.b.cuts x.b.bar w h.1 h.2 hlc hlb _ (fun a c a2 c2 w' h1 h2 h3 => ⟨⟨x.b, a, c, a2, c2⟩, rfl, rfl, ⟨h1, h2⟩, h3⟩)
end Go.Proofs.Ytmjaijpikbdfkaa
