/- layer 16: a table in memory; small calls of the program -/
import Derived.Test.YtdfadcbchiogjaaGreatMB
import Derived.Test.YtdfadcbchiogjaaGreatF5
import Derived.Test.YtdfadcbchiogjaaGreatCL
import Derived.WalkKit
import Derived.ProofKit
import Derived.Handy
import Derived.WalkLawsBesides
import Derived.WalkSpells
import Derived.BigQuiet
import Derived.BigCall
import Derived.Deep.QuietTactic
import Derived.Deep.Light
import Derived.Deep.OwnRows
import Derived.Laws.AppendOwnNone
import Derived.Laws.Strings3
import Derived.Laws.RangeAny
import Derived.Deep.RegionWith
import Derived.Lib.BitFns
import Derived.Lib.Walk
import Derived.Lib.Strings
import Derived.Lib.OthersKept
import Derived.Deep.CutBlock
import Derived.Deep.DeepCutAuto
import Derived.Deep.LoopGhost
import Derived.Deep.RegionHeld3
import Derived.Lib.SmallJoins
import Derived.Maps.AppendAt
import Derived.Laws.IdiomStrings
import Derived.Lib.AppendZeros
import Derived.Deep.WholeRow
import Derived.Laws.BitsAllLaws
import Derived.Lib.ConvBytes
import Derived.Deep.RegionLaw
import Derived.Maps.OwnSet
import Derived.Maps.OwnOps
import Derived.Maps.RangeWalk
import Derived.Maps.Ext
import Derived.DeepKeys4
import Derived.Laws.StructEq
import Derived.Deep.MidRow
import Derived.Lib.Bytealg
import Derived.Lib.AppendZerosOnto
import Derived.Laws.MakeOwn
import Derived.Deep.Upon
import Derived.Sort.KeysCollected
namespace Go.Proofs.YtdfadcbchiogjaaGreat
open Go.RowKit
set_option linter.unusedVariables false
set_option linter.unusedSimpArgs false
set_option maxRecDepth 20000
open N1
def Rng (n : Int) : Prop := -9223372036854775808 ≤ n ∧ n ≤ 9223372036854775807
theorem Rng.wf {n : Int} (h : Rng n) : (Lit.int .i64 n).wf = true := WalkArith.wf_i64 h
structure Wa (x : As) : Prop where
  i : x.i.size ≤ 140737488351232
  n : Rng x.iss
def tcs (t : Tb) (m1 m2 : Nat) : List Value := [.int .i64 t.need, .int .i64 t.li, .int .i64 t.la, .map (some m1), .map (some m2)]
/-- a table at p, its maps at m1, m2 -/
structure Tm (w : World) (p m1 m2 : Nat) (t : Tb) : Prop where
  b : Bx w p (tcs t m1 m2).toArray 87
  i : Ti w m1 (smI t.L)
  a : Ts w m2 (smA t.L)
  ne : m1 ≠ m2
/-- all but two blocks are kept -/
structure Kt (m1 m2 : Nat) (w w' : World) : Prop where
  os : w'.os = w.os
  tape : w'.tape = w.tape
  output : w'.output = w.output
  size : w.heap.size ≤ w'.heap.size
  block : ∀ k, k < w.heap.size → k ≠ m1 → k ≠ m2 → w'.heap[k]? = w.heap[k]?
theorem Kt.of_below {m1 m2 : Nat} {w w' : World} (h : Below w.heap.size w w') : Kt m1 m2 w w' := ⟨h.os, h.tape, h.output, h.size, fun k hk _ _ => h.block k hk⟩
theorem Kt.refl (m1 m2 : Nat) (w : World) : Kt m1 m2 w w := Kt.of_below (Below.refl _ w)
theorem Kt.trans {m1 m2 : Nat} {a b c : World} (h : Kt m1 m2 a b) (k : Kt m1 m2 b c) : Kt m1 m2 a c :=
  ⟨k.os.trans h.os, k.tape.trans h.tape, k.output.trans h.output, Nat.le_trans h.size k.size, fun i hi h1 h2 => (k.block i (Nat.lt_of_lt_of_le hi h.size) h1 h2).trans (h.block i hi h1 h2)⟩
theorem Kt.grown {m1 m2 : Nat} {w w' : World} {r : Option Nat} (h : w.grownBy w' r) (hr : ∀ k, r = some k → k = m1 ∨ k = m2) : Kt m1 m2 w w' :=
  ⟨h.os, h.tape, h.output, h.size, fun k hk n1 n2 => h.block k hk (fun e => by rcases hr k e.symm with e | e; exact n1 e; exact n2 e)⟩
theorem Kt.below {m1 m2 B : Nat} {w w' : World} (h : Kt m1 m2 w w') (hB : B ≤ w.heap.size) (h1 : B ≤ m1) (h2 : B ≤ m2) : Below B w w' :=
  ⟨h.os, h.tape, h.output, h.size, fun k hk => h.block k (by omega) (by omega) (by omega)⟩
theorem Tm.below {w w' : World} {p m1 m2 : Nat} {t : Tb} (h : Tm w p m1 m2 t) (hb : Below w.heap.size w w') : Tm w' p m1 m2 t := ⟨h.b.below hb h.b.lt, h.i.same (hb.block _ h.i.lt), h.a.same (hb.block _ h.a.lt), h.ne⟩
theorem Tm.alloc {w : World} {p m1 m2 : Nat} {t : Tb} (h : Tm w p m1 m2 t) (o : Obj) : Tm (w.alloc o) p m1 m2 t := h.below ((Below.refl _ w).alloc (Nat.le_refl _) o)
theorem Tm.drewN {w : World} {p m1 m2 : Nat} {t : Tb} (h : Tm w p m1 m2 t) (k : Nat) : Tm (w.drewN k) p m1 m2 t := ⟨h.b, h.i.same rfl, h.a.same rfl, h.ne⟩
theorem Tm.n1 {w : World} {p m1 m2 : Nat} {t : Tb} (h : Tm w p m1 m2 t) : p ≠ m1 := h.i.nb h.b
theorem Tm.n2 {w : World} {p m1 m2 : Nat} {t : Tb} (h : Tm w p m1 m2 t) : p ≠ m2 := h.a.nb h.b
theorem Tm.lookI {w : World} {p m1 m2 : Nat} {t : Tb} (h : Tm w p m1 m2 t) {a : Int} (ha : Rng a) : (Instr.lookup 73 (.map (some m1)) (.int .i64 a) false).run Tryz.prog w = .ok (.int .i64 (smI t.L a)) w := h.i.look OI (a := a) ha.wf
theorem Tm.lookA {w : World} {p m1 m2 : Nat} {t : Tb} (h : Tm w p m1 m2 t) {s : ByteArray} (hs : s.size ≤ maxLen) : (Instr.lookup 85 (.map (some m2)) (.string s) false).run Tryz.prog w = .ok (.int .i64 (smA t.L s.data.toList)) w := by
  have := h.a.look OS (a := s.data.toList) (by simpa [KS] using hs)
  rwa [kvs] at this
theorem Tm.drew {w : World} {p m1 m2 : Nat} {t : Tb} (h : Tm w p m1 m2 t) : Tm w.drew p m1 m2 t := ⟨h.b, h.i.same rfl, h.a.same rfl, h.ne⟩
def BP (b : Bool) (w : World) (e : Ending) (w' : World) : Prop := e = .returned (.bool b) ∧ w = w'
theorem xlack {w : World} {p m1 m2 : Nat} {t : Tb} (h : Tm w p m1 m2 t) : Calls Tryz.prog 34 #[.pointer (some ⟨p, 0, none⟩)] w (BP false w) := by
  have c0 : w.cell? ⟨p, 3, none⟩ = some (.map (some m1)) := h.b.cell 3
  have qm := run_eql_map_nil (P := Tryz.prog) w 73 3 3 (some m1) Tryz.underlying73
  clear h
  go_enter Tryz.func34, Tryz.ntmps34
  go_wp2_with fail
  go_ret
  exact ⟨rfl, rfl⟩
theorem xlack0 (w : World) : Calls Tryz.prog 34 #[.pointer none] w (BP true w) := by
  go_enter Tryz.func34, Tryz.ntmps34
  go_wp2_with fail
  go_ret
  exact ⟨rfl, rfl⟩
theorem xgood (n : Int) (w : World) : Calls Tryz.prog 32 #[.int .i64 n] w (BP (decide (0 ≤ n ∧ n ≤ 1000000)) w) := by
  by_cases h1 : 0 ≤ n
  · by_cases h2 : n ≤ 1000000
    · rw [decide_eq_true ⟨h1, h2⟩]
      go_enter Tryz.func32, Tryz.ntmps32
      go_wp2_with fail
      go_ret
      exact ⟨rfl, rfl⟩
    · rw [decide_eq_false (fun h => h2 h.2)]
      go_enter Tryz.func32, Tryz.ntmps32
      go_wp2_with fail
      go_ret
      exact ⟨rfl, rfl⟩
  · rw [decide_eq_false (fun h => h1 h.1)]
    go_enter Tryz.func32, Tryz.ntmps32
    go_wp2_with fail
    go_ret
    exact ⟨rfl, rfl⟩
def prt (n b : Int) : Int := n * b / 1000000
theorem prt_le {n b : Int} (hn : 0 ≤ n) (hb : 0 ≤ b ∧ b ≤ 1000000) : 0 ≤ prt n b ∧ prt n b ≤ n := by
  unfold prt
  have h1 : 0 ≤ n * b := Int.mul_nonneg hn hb.1
  have h2 : n * b ≤ n * 1000000 := Int.mul_le_mul_of_nonneg_left hb.2 hn
  omega
def PaP (n b : Int) (w : World) (e : Ending) (w' : World) : Prop := e = .returned (.int .i64 (prt n b)) ∧ Below w.heap.size w w'
theorem xpart (n b : Int) (hn : 0 ≤ n ∧ n ≤ 1125899906842624) (hb : 0 ≤ b ∧ b ≤ 1000000) (w : World) : Calls Tryz.prog 33 #[.int .i64 n, .int .i64 b] w (PaP n b w) := by
  have H := xmuldiv n b 1000000 1 (by omega) (by omega) (by omega) w (.inr xdiv64)
  have e1 : mdS n b 1000000 1 = prt n b := part_md n b 1000000 (by omega) hb (by omega)
  unfold MulDivPost at H
  rw [e1] at H
  generalize mdE n b 1000000 1 = E at H
  have HM : Hid (Calls Tryz.prog 28 #[.int .i64 n, .int .i64 b, .int .i64 1000000, .int .i64 1] w fun e w' => e = .returned (.tuple #[.int .i64 (prt n b), .int .i64 E]) ∧ Below w.heap.size w w') := H
  clear H e1
  unfold PaP
  generalize prt n b = P at *
  go_enter Tryz.func33, Tryz.ntmps33
  go_wp2_with (go_at_call 28; refine HM.out.mono ?_; clear HM; rintro e w1 ⟨rfl, hb⟩)
  go_ret
  exact ⟨rfl, hb⟩
def RmP (n : Int) (w : World) (e : Ending) (w' : World) : Prop := e = .returned (.int .i64 n) ∧ Below w.heap.size w w'
theorem xroom {w : World} {p m1 m2 k : Nat} {t : Tb} (h : Tm w p m1 m2 t) (g : Good t k) {a : As} (ha : Wa a) : Calls Tryz.prog 13 #[.pointer (some ⟨p, 0, none⟩), .agg (acs a).toArray] w (RmP (t.room a.iss a.i.data.toList) w) := by
  obtain ⟨w1, hw1⟩ : ∃ w1, w.alloc (.cells (acs a).toArray 48) = w1 := ⟨_, rfl⟩
  have h1 : Tm w1 p m1 m2 t := by rw [← hw1]; exact h.alloc _
  have hX : Bx w1 w.heap.size (acs a).toArray 48 := by rw [← hw1]; exact Bx.new w _ _
  have HB : Hid (∀ q, Below w.heap.size w (w1.drewN q)) := fun q => by rw [← hw1]; exact below_drewN ((Below.refl _ w).alloc (Nat.le_refl _) _) q
  have HL : Hid (Calls Tryz.prog 34 #[.pointer (some ⟨p, 0, none⟩)] w1 (BP false w1)) := xlack h1
  have c1 : w1.cell? ⟨p, 1, none⟩ = some (.int .i64 t.li) := h1.b.cell 1
  have c2 : w1.cell? ⟨p, 2, none⟩ = some (.int .i64 t.la) := h1.b.cell 2
  have c3 : w1.cell? ⟨p, 3, none⟩ = some (.map (some m1)) := h1.b.cell 3
  have c4 : w1.cell? ⟨p, 4, none⟩ = some (.map (some m2)) := h1.b.cell 4
  have x0 : w1.cell? ⟨w.heap.size, 0, none⟩ = some (.string a.i) := hX.cell 0
  have x1 : w1.cell? ⟨w.heap.size, 1, none⟩ = some (.int .i64 a.iss) := hX.cell 1
  have k1 : ∀ q, (Instr.lookup 73 (.map (some m1)) (.int .i64 a.iss) false).run Tryz.prog (w1.drewN q) = .ok (.int .i64 (smI t.L a.iss)) (w1.drewN q) := fun q => (h1.drewN q).lookI ha.n
  have k2 : ∀ q, (Instr.lookup 85 (.map (some m2)) (.string a.i) false).run Tryz.prog (w1.drewN q) = .ok (.int .i64 (smA t.L a.i.data.toList)) (w1.drewN q) := fun q => (h1.drewN q).lookA (by have := ha.i; unfold maxLen; omega)
  have gn := g.need
  have gli := g.li
  have gla := g.la
  have gi := g.i a.iss
  have ga := g.a a.i.data.toList
  have hs1 : wrap64 (t.li - smI t.L a.iss) = t.li - smI t.L a.iss := by unfold wrap64; omega
  have hs2 : wrap64 (t.la - smA t.L a.i.data.toList) = t.la - smA t.L a.i.data.toList := by unfold wrap64; omega
  have HR : Hid (∀ n q, n = max 0 (min (t.li - smI t.L a.iss) (t.la - smA t.L a.i.data.toList)) → RmP (t.room a.iss a.i.data.toList) w (.returned (.int .i64 n)) (w1.drewN q)) := fun n q e => ⟨by rw [e]; rfl, HB.out q⟩
  obtain ⟨i, iss, rat, mat, c⟩ := a
  simp only [acs] at *
  clear h h1 hX ha g gn gli gla gi ga HB
  generalize smI t.L iss = v1 at *
  generalize smA t.L i.data.toList = v2 at *
  generalize t.room iss i.data.toList = R at *
  go_enter Tryz.func13, Tryz.ntmps13
  go_wp2_with (go_at_call 34; refine HL.out.mono ?_; clear HL; rintro e w2 ⟨rfl, rfl⟩)
  go_quiet (fail)
  go_wp2_with fail
  go_ret
  exact HR.out _ _ rfl
/-- what a change leaves -/
def ShP (p m1 m2 : Nat) (t : Tb) (w : World) (e : Ending) (w' : World) : Prop := e = .returned (.tuple #[]) ∧ Tm w' p m1 m2 t ∧ Kt m1 m2 w w'
theorem smI_snoc (L : List Pt) (a : Int) (s : List UInt8) (c n : Int) : adj (smI L) a c n = smI (L ++ [⟨a, s, c⟩]) n := by
  rw [smI_app]
  unfold adj
  simp only [smI]
  split
  · rename_i e
    subst e
    rw [if_pos rfl]
    omega
  · rename_i e
    rw [if_neg (fun k => e k.symm)]
    omega
theorem smA_snoc (L : List Pt) (a : Int) (s : List UInt8) (c : Int) (n : List UInt8) : adj (smA L) s c n = smA (L ++ [⟨a, s, c⟩]) n := by
  rw [smA_app]
  unfold adj
  simp only [smA]
  split
  · rename_i e
    subst e
    rw [if_pos rfl]
    omega
  · rename_i e
    rw [if_neg (fun k => e k.symm)]
    omega
def Tb.more (t : Tb) (i : Int) (s : List UInt8) (c : Int) : Tb := { t with L := t.L ++ [⟨i, s, c⟩] }
theorem xshift {w : World} {p m1 m2 : Nat} {t : Tb} (h : Tm w p m1 m2 t) (hl : t.L.length ≤ 1000000) {a : As} (ha : Wa a) {c : Int} (hi : Rng (smI t.L a.iss + c)) (hs : Rng (smA t.L a.i.data.toList + c)) :
    Calls Tryz.prog 17 #[.pointer (some ⟨p, 0, none⟩), .agg (acs a).toArray, .int .i64 c] w (ShP p m1 m2 (t.more a.iss a.i.data.toList c) w) := by
  obtain ⟨w1, hw1⟩ : ∃ w1, w.alloc (.cells (acs a).toArray 48) = w1 := ⟨_, rfl⟩
  have h1 : Tm w1 p m1 m2 t := by rw [← hw1]; exact h.alloc _
  have hX : Bx w1 w.heap.size (acs a).toArray 48 := by rw [← hw1]; exact Bx.new w _ _
  have hB : Below w.heap.size w w1 := by rw [← hw1]; exact (Below.refl _ w).alloc (Nat.le_refl _) _
  have hsz : w1.heap.size = w.heap.size + 1 := by rw [← hw1]; simp
  have hm1 : m1 < w.heap.size := h.i.lt
  have hm2 : m2 < w.heap.size := h.a.lt
  have hp : p < w.heap.size := h.b.lt
  have H1 : Hid (Calls Tryz.prog 37 #[.map (some m1), .int .i64 a.iss, .int .i64 c] w1.drew fun e w' => ∃ u, e = .returned u ∧ (u = .tuple #[] ∧ Hid (Fm KI Tryz.prog w' m1 (adj (smI t.L) a.iss c) ∧ w1.drew.grownBy w' (some m1) ∧ w'.heap.size = w1.drew.heap.size))) := calls_val (xadjI h1.drew.i ha.n.wf hi (S := t.L.map (·.i)) (fun b hb => smI_src hb) (by rw [List.length_map]; exact hl))
  have H2 : Hid (∀ w2, (Fm KI Tryz.prog w2 m1 (adj (smI t.L) a.iss c) ∧ w1.drew.grownBy w2 (some m1) ∧ w2.heap.size = w1.drew.heap.size) → w2.cell? ⟨p, 4, none⟩ = some (.map (some m2)) ∧ w2.cell? ⟨w.heap.size, 0, none⟩ = some (.string a.i) ∧
      Calls Tryz.prog 39 #[.string a.i] w2.drew (fun e w' => ∃ u, e = .returned u ∧ (u = .string a.i ∧ Hid (Below w2.drew.heap.size w2.drew w')))) := fun w2 k => by
    have g2 : w1.grownBy w2 (some m1) := grown_undrew k.2.1
    have kp := h1.b.kept g2 (by have := h1.n1; simp [this])
    have kx := hX.kept g2 (by simp; omega)
    exact ⟨kp.cell 4, kx.cell 0, calls_val (xclone a.i (by have := ha.i; omega) _)⟩
  have H3 : Hid (∀ w2 w3, (Fm KI Tryz.prog w2 m1 (adj (smI t.L) a.iss c) ∧ w1.drew.grownBy w2 (some m1) ∧ w2.heap.size = w1.drew.heap.size) → Below w2.drew.heap.size w2.drew w3 → w3.cell? ⟨p, 4, none⟩ = some (.map (some m2)) ∧
      Calls Tryz.prog 38 #[.map (some m2), .string a.i, .int .i64 c] w3 (fun e w' => ∃ u, e = .returned u ∧ (u = .tuple #[] ∧ Hid (ShP p m1 m2 (t.more a.iss a.i.data.toList c) w (.returned (.tuple #[])) w')))) := fun w2 w3 k kb => by
    have g2 : w1.grownBy w2 (some m1) := grown_undrew k.2.1
    have s2 : w2.heap.size = w1.heap.size := k.2.2
    have kb' : Below w2.heap.size w2 w3 := below_undrew kb
    have ka : Ts w3 m2 (smA t.L) := (h1.a.kept g2 (by have := h1.ne; simp; omega)).same (kb'.block _ (by omega))
    refine ⟨((h1.b.kept g2 (by have := h1.n1; simp [this])).below kb' (by omega)).cell 4, ?_⟩
    refine (xadjS ka (by have := ha.i; unfold maxLen; omega) hs (S := t.L.map (·.s)) (fun b hb => smA_src hb) (by rw [List.length_map]; exact hl)).mono fun e w4 hh => ?_
    obtain ⟨rfl, k4, g4, s4⟩ := hh
    refine ⟨_, rfl, rfl, rfl, ⟨?_, ?_, ?_, h.ne⟩, ?_⟩
    · exact ((h1.b.kept g2 (by have := h1.n1; simp [this])).below kb' (by omega)).kept g4 (by have := h1.n2; simp [this])
    · exact (k.1.ext (smI_snoc t.L a.iss a.i.data.toList c)).same ((g4.block m1 (by have := kb'.size; omega) (by have := h1.ne; simp [this])).trans (kb'.block m1 (by omega)))
    · exact k4.ext (smA_snoc t.L a.iss a.i.data.toList c)
    · exact ((Kt.of_below hB).trans (Kt.grown g2 (by rintro k e; cases e; exact .inl rfl))).trans ((Kt.of_below kb').trans (Kt.grown g4 (by rintro k e; cases e; exact .inr rfl)))
  have c3 : w1.cell? ⟨p, 3, none⟩ = some (.map (some m1)) := h1.b.cell 3
  have x1 : w1.cell? ⟨w.heap.size, 1, none⟩ = some (.int .i64 a.iss) := hX.cell 1
  obtain ⟨i, iss, rat, mat, cc⟩ := a
  simp only [acs] at *
  clear h h1 ha hi hs hl hX hB
  go_enter Tryz.func17, Tryz.ntmps17
  go_upto_region 1 with fail
  go_region_law (refine step_call _ (by rfl) 37 #[.map (some m1), .int .i64 iss, .int .i64 c] (by go_simp) _ H1.out ?_; clear H1; rintro v9 w2 ⟨rfl, h2⟩; obtain ⟨k4, k0, HC⟩ := H2.out _ h2.out)
  all_goals
    go_upto_region 2 with fail
    go_region_law (first | (refine step_call _ (by rfl) 39 #[.string i] (by go_simp) _ HC ?_; clear HC; rintro v8 w3 ⟨rfl, h3⟩; obtain ⟨k5, HD⟩ := H3.out _ _ h2.out h3.out) | (refine step_call _ (by rfl) 38 #[.map (some m2), .string i, .int .i64 c] (by go_simp) _ HD ?_; clear HD; rintro v7 w4 ⟨rfl, h4⟩))
    all_goals
      go_wp2_with fail
      refine bodyPost_ret (results_none rfl _ _ _) rfl ?_
      exact h4.out
end Go.Proofs.YtdfadcbchiogjaaGreat
