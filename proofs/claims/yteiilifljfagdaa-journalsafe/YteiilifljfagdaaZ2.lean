/- Law Safe, call by call. -/
import Derived.Test.YteiilifljfagdaaZ1
import Derived.WalkKit
import Derived.ProofKit
import Derived.Handy
import Derived.WalkLawsBesides
import Derived.WalkSpells
import Derived.BigQuiet
import Derived.BigCall
import Derived.Deep.QuietTactic
import Derived.Deep.Light
import Derived.Deep.OwnRows
import Derived.Laws.AppendOwnNone
import Derived.Laws.Strings3
import Derived.Laws.RangeAny
import Derived.Deep.RegionWith
import Derived.Lib.BitFns
import Derived.Lib.Walk
import Derived.Lib.Strings
import Derived.Lib.OthersKept
import Derived.Deep.CutBlock
import Derived.Deep.DeepCutAuto
import Derived.Deep.LoopGhost
import Derived.Deep.RegionHeld3
import Derived.Lib.SmallJoins
import Derived.Maps.AppendAt
import Derived.Laws.IdiomStrings
import Derived.Lib.AppendZeros
import Derived.Deep.WholeRow
import Derived.Laws.BitsAllLaws
import Derived.Lib.ConvBytes
import Derived.Deep.RegionLaw
namespace Go.Proofs.Yteiilifljfagdaa
open Go.RowKit
set_option linter.unusedVariables false
set_option linter.unusedSimpArgs false
/-- the rows and worlds beside -/
structure Bs (B : Nat) (w wr : World) (u : Value) (all : List ByteArray) : Prop where
  good : Good all
  row : wr.ownsRow B 9 1 u all.length (scells all)
  low : Below B w wr
/-- it runs -/
def Sf (B nb k G : Nat) (w wr : World) (q : Nat) (u : Value) (all : List ByteArray) : Prop :=
  ∃ (S : St) (V : Nat → Value) (f g a : Nat) (s : ByteArray) (v : Value) (cs : List ByteArray), Lv B wr q B S V f g a s v cs ∧ Tells a s.data.toList (ls cs) (ls all) ∧ (∀ k, u.ownBlock = some k → v.ownBlock ≠ some k) ∧ (0 ≤ S.lim → k < nb) ∧ g ≤ G ∧ Bs B w wr u all
/-- a call ended in the midst -/
def Ff (B nb k G : Nat) (w wr : World) (u : Value) (all : List ByteArray) (c : ByteArray) : Prop :=
  ∃ (S : St) (V : Nat → Value) (f g a : Nat) (s : ByteArray) (cs : List ByteArray), Dk B wr B S V ∧ Kept S f g a s.data.toList (ls cs) c.data.toList all.length (joined (ls all)) ∧ Tells a s.data.toList (ls cs) (ls all) ∧ k < nb ∧ g ≤ G ∧ Bs B w wr u all
/-- behind a crash (d: the limit) -/
def Fc (B k G : Nat) (l : Int) (w wr : World) (u : Value) (all : List ByteArray) (c : ByteArray) : Prop :=
  ∃ (S : St) (V : Nat → Value) (f g a : Nat) (s : ByteArray) (cs : List ByteArray), Dk B wr B S V ∧ Kept S f g a s.data.toList (ls cs) c.data.toList all.length (joined (ls all)) ∧ Tells a s.data.toList (ls cs) (ls all) ∧ (∀ j, S.s j = (S.f j).size) ∧ S.gone = false ∧ S.lim = l ∧ g ≤ G ∧ Bs B w wr u all
theorem Bs.fr {B : Nat} {w wr w' : World} {u : Value} {all : List ByteArray} (h : Bs B w wr u all) {S : St} {V : Nat → Value} (hd : Dk B wr B S V) (hf : Fr B B wr w') : Bs B w w' u all := ⟨h.good, own_fr hd h.row hf, h.low.trans hf.1⟩
theorem Bs.keep {B : Nat} {w wr w' : World} {u : Value} {all : List ByteArray} (h : Bs B w wr u all) (hB : B ≤ wr.heap.size) (hb : Below wr.heap.size wr w') : Bs B w w' u all := ⟨h.good, own_keep h.row hb, h.low.trans (hb.mono hB)⟩
theorem sf_limit {B nb k G q : Nat} {w wr : World} {u : Value} {all : List ByteArray} (h : Sf B nb k G w wr q u all) (hk : k < nb) (n : Int) (h1 : -9223372036854775808 ≤ n) (h2 : n ≤ 9223372036854775807) :
    Calls Try.prog 23 #[.pointer (some ⟨B, 0, none⟩), .int .i64 n] wr fun e w' => e = .returned (.tuple #[]) ∧ Hid (Sf B nb k G w w' q u all) := by
  obtain ⟨S, V, f, g, a, s, v, cs, hl, ht, ha, _, hg, hb⟩ := h
  refine (xlimit B B S V wr hl.d n).mono ?_
  rintro e w' ⟨rfl, hd, hf⟩
  exact ⟨rfl, _, V, f, g, a, s, v, cs, ⟨hl.j.fr hl.d hf, hd, hl.r.lim n h1 h2⟩, ht, ha, fun _ => hk, hg, hb.fr hl.d hf⟩
/-- Turn -/
def StP (B nb k G q : Nat) (w : World) (u : Value) (all : List ByteArray) (c : ByteArray) (e : Ending) (w' : World) : Prop :=
  ∃ x : Int, e = .returned (.int .i64 x) ∧ ((x = 0 ∧ Hid (Sf B nb k (G + 1) w w' q u all)) ∨ (¬ x = 0 ∧ Hid (Ff B nb k G w w' u all c)))
theorem fit_all {G g : Nat} {all : List ByteArray} (hg : g ≤ G) (hG : G ≤ 100) (h : Good all) (hn : all.length ≤ 30) {N : Nat} (hN : N ≤ 60) : Fit (g + 1) N (joined (ls all)) := by
  have h1 := joined_good h
  exact ⟨by omega, by omega, by omega, by omega⟩
theorem sf_turn {B nb k G q : Nat} {w wr : World} {u : Value} {all : List ByteArray} (h : Sf B nb k G w wr q u all) (hG : G ≤ 100) (hn : all.length ≤ 30) (J : ByteArray) (hJ : J.data.toList = joined (ls all)) (c : ByteArray) (hc : c.size ≤ 4096) :
    Calls Try.prog 24 #[.pointer (some ⟨q, 0, none⟩), .string J] wr (StP B nb k G q w u all c) := by
  obtain ⟨S, V, f, g, a, s, v, cs, hl, ht, ha, hk, hg, hb⟩ := h
  have hsq : a + cs.length = all.length := by have := ht.seq; rw [ls_len, ls_len] at this; exact this
  have hfit : Fit (g + 1) (a + cs.length) J.data.toList := by rw [hJ]; exact fit_all hg hG hb.good hn (by omega)
  have hJs : J.size ≤ 122910 := by
    have h1 := joined_good hb.good
    rw [← hJ] at h1
    have e : J.data.toList.length = J.size := rfl
    omega
  refine (fturn hl J hfit (by have := lay_small (g + 1) (a + cs.length) hJs; omega)).mono ?_
  rintro e w' ⟨x, S', V', rfl, hd, hf, h1⟩
  have hrow := own_jf hl hb.row ha hf.out
  have hbs : Bs B w w' u all := ⟨hb.good, hrow, hb.low.trans hf.out.1⟩
  refine ⟨x, rfl, ?_⟩
  rcases h1 with ⟨rfl, h2, h3⟩ | ⟨h2, h3, h4⟩
  · refine .inl ⟨rfl, S', V', 1 - f, g + 1, a + cs.length, J, .slice none 0 0, [], h3.out, ?_, fun j _ => (fun e => by cases e), fun z => hk (h2 z), by omega, hbs⟩
    rw [hsq, hJ]
    have := Tells.new (ls all)
    rw [ls_len] at this
    exact this
  · refine .inr ⟨h2, S', V', f, g, a, s, cs, hd.out, ?_, ht, hk h3, hg, hbs⟩
    have := h4.out c.data.toList hc
    rw [hsq, hJ] at this
    exact this
/-- Add, and the append behind it -/
def SaP (B nb k G q : Nat) (w : World) (u : Value) (all : List ByteArray) (c : ByteArray) (e : Ending) (w' : World) : Prop :=
  ∃ x : Int, e = .returned (.int .i64 x) ∧ ((x = 0 ∧ Hid (Below B w w') ∧ ∃ v2 w4, (Builtin.append_ #[35, 35] 35 #[u, .slice (some ⟨w'.heap.size, 0, none⟩) 1 1]).run Try.prog (w'.alloc (.cells #[.string c] 9)) = .ok v2 w4 ∧ Hid (Sf B nb k G w w4 q v2 (all ++ [c]))) ∨ (¬ x = 0 ∧ Hid (Ff B nb k G w w' u all c)))
theorem sf_add {B nb k G q : Nat} {w wr : World} {u : Value} {all : List ByteArray} (h : Sf B nb k G w wr q u all) (hG : G ≤ 100) (hn : all.length ≤ 29) (c : ByteArray) (hc : c.size ≤ 4096) (hz : noZero c.data.toList) :
    Calls Try.prog 26 #[.pointer (some ⟨q, 0, none⟩), .string c] wr (SaP B nb k G q w u all c) := by
  obtain ⟨S, V, f, g, a, s, v, cs, hl, ht, ha, hk, hg, hb⟩ := h
  obtain ⟨m1, m2, m3, m4⟩ := ht.small hb.good (by omega)
  refine (fadd hl c hc (by have := lay_small g a m3; omega)).mono ?_
  rintro e w' ⟨x, S', V', rfl, hd, hf, h1⟩
  have hrow := own_jf hl hb.row ha hf.out
  refine ⟨x, rfl, ?_⟩
  rcases h1 with ⟨rfl, h2, _, v', h3, h4⟩ | ⟨h2, h3, h4⟩
  · obtain ⟨v2, w4, q1, q2, q3, q4⟩ := app_one hrow h3.out.d.bw c (by omega)
    have hne' : ∀ k, u.ownBlock = some k → v'.ownBlock ≠ some k := by
      intro j hj
      rcases h4 with e | ⟨m, e, hm⟩
      · rw [e]; exact ha j hj
      · rw [e]
        intro e2
        injection e2 with e2
        have := (hb.row.lt j hj).2
        omega
    have hla := h3.out.keep (below_new w' (.cells #[.string c] 9))
    have hoa := own_keep hrow (below_new w' (.cells #[.string c] 9))
    have hl4 := hla.grown9 hoa hne' q3
    have hb4 : Below B wr w4 := (hf.out.1.alloc h3.out.d.bw _).grown q3 (by have := h3.out.d.bw; simp; omega) (fun j hj => (hb.row.lt j hj).1)
    refine .inl ⟨rfl, hb.low.trans hf.out.1, v2, w4, q1, S', V', f, g, a, s, v', cs ++ [c], hl4, ?_, ?_, fun z => hk (h2 z), hg, ⟨hb.good.snoc hc hz, q2, hb.low.trans hb4⟩⟩
    · rw [ls_app, ls_app]
      exact ht.add _
    · intro j hj
      rcases q4 with e | e
      · rw [e] at hj; exact hne' j hj
      · rw [e] at hj
        injection hj with hj
        intro e2
        have := (h3.out.j.own.lt j e2).2
        omega
  · exact .inr ⟨h2, S', V', f, g, a, s, cs, hd.out, h4.out _ _ (fit_all hg hG hb.good (by omega) (by omega)), ht, hk h3, hg, ⟨hb.good, hrow, hb.low.trans hf.out.1⟩⟩
theorem ff_crash {B nb k G : Nat} {w wr : World} {u : Value} {all : List ByteArray} {c : ByteArray} (h : Ff B nb k G w wr u all c) (K : Nat → Int) (hK : ∀ j, -9223372036854775808 ≤ K j ∧ K j ≤ 9223372036854775807) :
    Calls Try.prog 27 #[.pointer (some ⟨B, 0, none⟩), .agg (kcells K)] wr fun e w' => e = .returned (.tuple #[]) ∧ Hid (Fc B (k + 1) G (-1) w w' u all c) := by
  obtain ⟨S, V, f, g, a, s, cs, hd, hkp, ht, hk, hg, hb⟩ := h
  refine (fcrash hd hkp.disk K hK).mono ?_
  rintro e w' ⟨rfl, V', hd', hf⟩
  exact ⟨rfl, _, V', f, g, a, s, cs, hd'.out, hkp.crash K, ht, crs_rest hkp.disk K, rfl, rfl, hg, hb.fr hd hf.out⟩
theorem fc_limit {B k G : Nat} {w wr : World} {u : Value} {all : List ByteArray} {c : ByteArray} (h : Fc B k G (-1) w wr u all c) :
    Calls Try.prog 23 #[.pointer (some ⟨B, 0, none⟩), .int .i64 1] wr fun e w' => e = .returned (.tuple #[]) ∧ Hid (Fc B k G 1 w w' u all c) := by
  obtain ⟨S, V, f, g, a, s, cs, hd, hkp, ht, hr, hgo, hl, hg, hb⟩ := h
  refine (xlimit B B S V wr hd 1).mono ?_
  rintro e w' ⟨rfl, hd', hf⟩
  exact ⟨rfl, _, V, f, g, a, s, cs, hd', hkp.sm (Sm.lim S 1) (lim_ok hkp.disk 1 (by omega) (by omega)), ht, hr, hgo, rfl, hg, hb.fr hd hf⟩
theorem fc_reopen {B nb k G : Nat} {l : Int} {w wr : World} {u : Value} {all : List ByteArray} {c : ByteArray} (h : Fc B k G l w wr u all c) (hk : k < nb) :
    Calls Try.prog 28 #[.pointer (some ⟨B, 0, none⟩)] wr fun e w' => ∃ v y, e = .returned (.tuple #[v, y]) ∧ Hid (Ff B nb k G w w' u all c) := by
  obtain ⟨S, V, f, g, a, s, cs, hd, hkp, ht, hr, hgo, hl, hg, hb⟩ := h
  refine (xopen B B S V wr hd hkp.disk hgo).mono ?_
  rintro e w' ⟨⟨V', hd'⟩, hf, h1⟩
  have hff : Ff B nb k G w w' u all c := ⟨_, V', f, g, a, s, cs, hd'.out, hkp.reopened hr hgo, ht, hk, hg, hb.fr hd hf.out⟩
  rcases h1 with ⟨_, f', j, q, s', u', ys, _, rfl, _⟩ | ⟨_, rfl⟩
  · exact ⟨_, _, rfl, hff⟩
  · exact ⟨_, _, rfl, hff⟩
/-- opened again: all commands, and perhaps the one that was being added -/
def SoP (B nb k G : Nat) (w : World) (u : Value) (all : List ByteArray) (c : ByteArray) (e : Ending) (w' : World) : Prop :=
  ∃ (q : Nat) (nw : List ByteArray), e = .returned (.tuple #[.pointer (some ⟨q, 0, none⟩), .int .i64 0]) ∧ Hid (nw = all ∨ nw = all ++ [c]) ∧ Hid (Good nw) ∧ Hid (w'.ownsRow B 9 1 u all.length (scells all)) ∧
    Hid (∃ (S : St) (V : Nat → Value) (f g a : Nat) (s : ByteArray) (v : Value) (cs : List ByteArray), Lv B w' q B S V f g a s v cs ∧ Tells a s.data.toList (ls cs) (ls nw) ∧ S.lim < 0 ∧ g ≤ G + 1) ∧ Hid (Below B w w')
theorem fc_open {B nb k G : Nat} {w wr : World} {u : Value} {all : List ByteArray} {c : ByteArray} (h : Fc B k G (-1) w wr u all c) (hc : c.size ≤ 4096) (hz : noZero c.data.toList) :
    Calls Try.prog 28 #[.pointer (some ⟨B, 0, none⟩)] wr (SoP B nb k G w u all c) := by
  obtain ⟨S, V, f, g, a, s, cs, hd, hkp, ht, hr, hgo, hl, hg, hb⟩ := h
  refine (xopen B B S V wr hd hkp.disk hgo).mono ?_
  rintro e w' ⟨⟨V', hd'⟩, hf, h1⟩
  have hbs := hb.fr hd hf.out
  rcases hkp.opened hr hgo with ⟨o1, o2, o3⟩ | ⟨_, o2, _⟩
  · rcases h1 with ⟨_, f', j, q, s', u', ys, p1, rfl, p2, p3, p4⟩ | ⟨p1, _⟩
    · have hlim : (opn S).1.lim < 0 := by
        rcases Int.lt_or_le (opn S).1.lim 0 with z | z
        · exact z
        · have := o2 z
          omega
      rcases o3 with ⟨ds, fin, r1, r2, r3⟩ | ⟨fin, r2, r3⟩
      · rw [r2] at p1
        injection p1 with p1
        injection p1 with e1 e2
        subst e1; subst e2
        obtain rfl : s' = s := ba_ext p3
        have p4' : ls ys = ds := p4
        subst p4'
        rcases r1 with r1 | r1
        · obtain rfl : ys = cs := ls_inj r1
          exact ⟨q, all, rfl, .inl rfl, hb.good, hbs.row, ⟨_, V', f, g, a, s', u', ys, ⟨p2.out.below hd.bw, hd'.out, r3⟩, ht, hlim, by omega⟩, hbs.low⟩
        · obtain rfl : ys = cs ++ [c] := ls_inj (by rw [r1, ls_app]; rfl)
          refine ⟨q, all ++ [c], rfl, .inr rfl, hb.good.snoc hc hz, hbs.row, ⟨_, V', f, g, a, s', u', _, ⟨p2.out.below hd.bw, hd'.out, r3⟩, ?_, hlim, by omega⟩, hbs.low⟩
          rw [ls_app, ls_app]
          exact ht.add _
      · rw [r2] at p1
        injection p1 with p1
        injection p1 with e1 e2
        subst e1; subst e2
        have p4' : ls ys = [] := p4
        obtain rfl : ys = [] := ls_inj p4'
        have p3' : s'.data.toList = joined (ls all) := p3
        refine ⟨q, all, rfl, .inl rfl, hb.good, hbs.row, ⟨_, V', 1 - f, g + 1, all.length, s', u', [], ⟨p2.out.below hd.bw, hd'.out, by rw [p3']; exact r3⟩, ?_, hlim, by omega⟩, hbs.low⟩
        rw [p3']
        have := Tells.new (ls all)
        rw [ls_len] at this
        exact this
    · exact absurd o1 p1
  · omega
end Go.Proofs.Yteiilifljfagdaa
