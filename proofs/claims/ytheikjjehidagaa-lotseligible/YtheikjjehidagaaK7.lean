/- layer 17: law Eligible -/
import Derived.Test.YtheikjjehidagaaK5
import Derived.Test.YtheikjjehidagaaTC
import Derived.Test.YtheikjjehidagaaK4
import Derived.Test.YtheikjjehidagaaK3
import Derived.WalkKit
import Derived.ProofKit
import Derived.Handy
import Derived.WalkLawsBesides
import Derived.WalkSpells
import Derived.BigQuiet
import Derived.BigCall
import Derived.Deep.QuietTactic
import Derived.Deep.Light
import Derived.Deep.OwnRows
import Derived.Laws.AppendOwnNone
import Derived.Laws.Strings3
import Derived.Laws.RangeAny
import Derived.Deep.RegionWith
import Derived.Lib.BitFns
import Derived.Lib.Walk
import Derived.Lib.Strings
import Derived.Lib.OthersKept
import Derived.Deep.CutBlock
import Derived.Deep.DeepCutAuto
import Derived.Deep.LoopGhost
import Derived.Deep.RegionHeld3
import Derived.Lib.SmallJoins
import Derived.Maps.AppendAt
import Derived.Laws.IdiomStrings
import Derived.Lib.AppendZeros
import Derived.Deep.WholeRow
import Derived.Laws.BitsAllLaws
import Derived.Lib.ConvBytes
import Derived.Deep.RegionLaw
import Derived.Maps.OwnSet
import Derived.Maps.OwnOps
import Derived.Maps.RangeWalk
import Derived.Maps.Ext
import Derived.DeepKeys4
import Derived.Laws.StructEq
import Derived.Deep.MidRow
import Derived.Lib.Bytealg
import Derived.Lib.AppendZerosOnto
import Derived.Laws.MakeOwn
import Derived.Deep.Upon
import Derived.Sort.KeysCollected
import Derived.Shelf.SlSortCmp.KitK
import Derived.Test.YtheikjjehidagaaX
import Derived.OpenShut
import Derived.ChangeOld
import Derived.Below
import Derived.SizedLaws
import Derived.ChangeMaps5
namespace Go.Proofs.Ytheikjjehidagaa.H5
open Go.RowKit
set_option linter.unusedVariables false
set_option linter.unusedSimpArgs false
set_option maxRecDepth 100000
set_option linter.unusedSectionVars false
open Num
theorem bars_few {b : N14.Bk} (h : N14.bkE N14.C0 b = 0) : b.bar.length ≤ 64 := by
  unfold N14.bkE at h
  split at h
  · cases h
  · rename_i h1
    simp at h1
    exact h1.2.2.2.2.2.2.2
section
variable [Inhabited It]
set_option maxHeartbeats 32000000 in
theorem lelig (ks : List As) (ka : Option Addr) (kc : Nat) (ps : List Pr) (pa : Option Addr) (pc : Nat) (b : N14.Bk) (ca ba : Option Addr) (cc bc : Nat) (M : List Lt) (la : Option Addr) (lc : Nat) (d : Int) (w : World) (hk : Rw 5 acs w ka ks) (hkw : ∀ a ∈ ks, a.i.size ≤ 140737488351232) (hp : Rw 2 prc w pa ps) (hC : N14.Cts w.heap.size w ca b.cuts) (hI : N14.Ins w.heap.size w ba b.bar) (hlc : b.cuts.length ≤ 9223372036854775807) (hlb : b.bar.length ≤ 9223372036854775807) (hM : Rw 2 lcs w la M) (hMs : ∀ x ∈ M, x.i.size ≤ 281474976710656) :
    Calls Try.prog 7 #[.slice ka ks.length kc, .slice pa ps.length pc, .agg #[.int .i64 b.id, .int .i64 b.ver, .string ⟨b.cur.toArray⟩, .int .i64 b.rat, .int .i64 b.least, .int .i64 b.most, .slice ca b.cuts.length cc, .int .i64 b.iss, .int .i64 b.ass, .slice ba b.bar.length bc], .slice la M.length lc, .int .i64 d] w (BbP true w) := by
  have HA : Hid (∀ w, Calls Try.prog 8 #[] w (BbP true w)) := fun w => xawake w
  have HR0 : Hid (∀ W, Below w.heap.size w W → Calls Try.prog 31 #[.agg #[.int .i64 b.id, .int .i64 b.ver, .string ⟨b.cur.toArray⟩, .int .i64 b.rat, .int .i64 b.least, .int .i64 b.most, .slice ca b.cuts.length cc, .int .i64 b.iss, .int .i64 b.ass, .slice ba b.bar.length bc]] W (N14.KP (.int .i64 (N14.bkE N14.C0 b)) W)) := fun W hW => rbk b ca ba cc bc W ((hC.keep hW).mono hW.size) ((hI.keep hW).mono hW.size) hlc hlb
  have HK : Hid (Rw 5 acs w ka ks) := hk
  have HKW : Hid (∀ a ∈ ks, a.i.size ≤ 140737488351232) := hkw
  have HP : Hid (Rw 2 prc w pa ps) := hp
  have HC : Hid (N14.Cts w.heap.size w ca b.cuts) := hC
  have HIN : Hid (N14.Ins w.heap.size w ba b.bar) := hI
  have HLC : Hid (b.cuts.length ≤ 9223372036854775807) := hlc
  have HLT : Hid (Rw 2 lcs w la M) := hM
  have HLS : Hid (∀ x ∈ M, x.i.size ≤ 281474976710656) := hMs
  have HBF : Hid (N14.bkE N14.C0 b = 0 → b.bar.length ≤ 64) := bars_few
  clear hk hkw hp hC hI hlb hlc hM hMs
  generalize N14.bkE N14.C0 b = E at *
  obtain ⟨i0, i1, cur, i3, i4, i5, xs, i7, i8, ys⟩ := b
  simp only at *
  obtain ⟨nb, hnb⟩ : ∃ n, ys.length = n := ⟨_, rfl⟩
  have HNB : Hid (ys.length = nb) := hnb
  rw [hnb] at HR0 HBF ⊢
  clear hnb
  generalize (⟨cur.toArray⟩ : ByteArray) = s at *
  have HX : Hid (Bx (w.alloc (.cells #[.int .i64 i0, .int .i64 i1, .string s, .int .i64 i3, .int .i64 i4, .int .i64 i5, .slice ca xs.length cc, .int .i64 i7, .int .i64 i8, .slice ba nb bc] 62)) w.heap.size #[.int .i64 i0, .int .i64 i1, .string s, .int .i64 i3, .int .i64 i4, .int .i64 i5, .slice ca xs.length cc, .int .i64 i7, .int .i64 i8, .slice ba nb bc] 62) := Bx.new w _ _
  have HB : Hid (Below w.heap.size w (w.alloc (.cells #[.int .i64 i0, .int .i64 i1, .string s, .int .i64 i3, .int .i64 i4, .int .i64 i5, .slice ca xs.length cc, .int .i64 i7, .int .i64 i8, .slice ba nb bc] 62))) := (Below.refl _ w).alloc (Nat.le_refl _) _
  go_enter Try.func7, Try.ntmps7
  go_upto_region 1 with fail
  generalize w.alloc (.cells #[.int .i64 i0, .int .i64 i1, .string s, .int .i64 i3, .int .i64 i4, .int .i64 i5, .slice ca xs.length cc, .int .i64 i7, .int .i64 i8, .slice ba nb bc] 62) = w0 at *
  have c0 : w0.cell? ⟨w.heap.size, 0, none⟩ = some (.int .i64 i0) := HX.out.cell 0
  have c1 : w0.cell? ⟨w.heap.size, 1, none⟩ = some (.int .i64 i1) := HX.out.cell 1
  have c2 : w0.cell? ⟨w.heap.size, 2, none⟩ = some (.string s) := HX.out.cell 2
  have c3 : w0.cell? ⟨w.heap.size, 3, none⟩ = some (.int .i64 i3) := HX.out.cell 3
  have c4 : w0.cell? ⟨w.heap.size, 4, none⟩ = some (.int .i64 i4) := HX.out.cell 4
  have c5 : w0.cell? ⟨w.heap.size, 5, none⟩ = some (.int .i64 i5) := HX.out.cell 5
  have c6 : w0.cell? ⟨w.heap.size, 6, none⟩ = some (.slice ca xs.length cc) := HX.out.cell 6
  have c7 : w0.cell? ⟨w.heap.size, 7, none⟩ = some (.int .i64 i7) := HX.out.cell 7
  have c8 : w0.cell? ⟨w.heap.size, 8, none⟩ = some (.int .i64 i8) := HX.out.cell 8
  have c9 : w0.cell? ⟨w.heap.size, 9, none⟩ = some (.slice ba nb bc) := HX.out.cell 9
  go_wp2_with fail
  refine (HR0.out _ HB.out).mono ?_
  rintro e w1 ⟨rfl, hb⟩
  have HX1 : Hid (Bx w1 w.heap.size #[.int .i64 i0, .int .i64 i1, .string s, .int .i64 i3, .int .i64 i4, .int .i64 i5, .slice ca xs.length cc, .int .i64 i7, .int .i64 i8, .slice ba nb bc] 62) := HX.out.keep hb.out
  have HB1 : Hid (Below w.heap.size w w1) := HB.out.trans (hb.out.mono HB.out.size)
  clear c0 c1 c2 c3 c4 c5 c6 c7 c8 c9 HX HB hb HR0
  by_cases hE : ¬ E = 0
  · have hez : ((E : Int) != 0) = true := by simp [hE]
    clear hE
    generalize ks.length = nk at *
    generalize ps.length = np at *
    generalize M.length = nm at *
    go_wp2_with (go_at_call 8; refine (HA.out _).mono ?_; rintro e w2 ⟨rfl, HB2⟩; have K2 : Hid (Below w.heap.size w w2) := HB1.out.trans (HB2.mono HB1.out.size); clear HB2)
    go_ret
    exact ⟨rfl, K2.out⟩
  have hez : ((E : Int) != 0) = false := by simp [Decidable.of_not_not hE]
  have HNF : Hid (nb ≤ 64) := HBF.out (Decidable.of_not_not hE)
  clear hE HBF
  by_cases hk40 : 40 < ks.length
  · have hkz : (40 : Int) < (ks.length : Int) := by omega
    generalize ks.length = nk at *
    generalize ps.length = np at *
    generalize M.length = nm at *
    go_wp2_with (go_at_call 8; refine (HA.out _).mono ?_; rintro e w2 ⟨rfl, HB2⟩; have K2 : Hid (Below w.heap.size w w2) := HB1.out.trans (HB2.mono HB1.out.size); clear HB2)
    go_ret
    exact ⟨rfl, K2.out⟩
  have hkz : ¬ (40 : Int) < (ks.length : Int) := by omega
  by_cases hp100 : 100 < ps.length
  · have hpz : (100 : Int) < (ps.length : Int) := by omega
    generalize M.length = nm at *
    go_wp2_with (go_at_call 8; refine (HA.out _).mono ?_; rintro e w2 ⟨rfl, HB2⟩; have K2 : Hid (Below w.heap.size w w2) := HB1.out.trans (HB2.mono HB1.out.size); clear HB2)
    go_ret
    exact ⟨rfl, K2.out⟩
  have hpz : ¬ (100 : Int) < (ps.length : Int) := by omega
  by_cases hm100 : 100 < M.length
  · have hmz : (100 : Int) < (M.length : Int) := by omega
    go_wp2_with (go_at_call 8; refine (HA.out _).mono ?_; rintro e w2 ⟨rfl, HB2⟩; have K2 : Hid (Below w.heap.size w w2) := HB1.out.trans (HB2.mono HB1.out.size); clear HB2)
    go_ret
    exact ⟨rfl, K2.out⟩
  have hmz : ¬ (100 : Int) < (M.length : Int) := by omega
  have HN : Hid (∀ W, Calls Try.prog 32 #[] W fun e w' => e = .returned (.pointer (some ⟨W.heap.size, 0, none⟩)) ∧ w' = W.alloc (.cells #[.bool true, .slice none 0 0] 97)) := fun W => xnew W
  go_wp2_with (go_at_call 32; refine (HN.out _).mono ?_; clear HN; rintro e w2 ⟨rfl, rfl⟩)
  have HF0 : Hid (Fs w1 (w1.alloc (.cells #[.bool true, .slice none 0 0] 97)) w1.heap.size (.slice none 0 0) [] [] none 0) := ⟨(Below.refl _ w1).alloc (Nat.le_refl _) _, Bk.new w1 (Nat.le_refl _), World.ownsRow_nil _ _ _ _⟩
  generalize w1.alloc (.cells #[.bool true, .slice none 0 0] 97) = w2 at *
  have HQ0 : Hid (w1.heap.size ≤ w1.heap.size) := Nat.le_refl _
  generalize hbq : w1.heap.size = bq at HF0 HQ0 ⊢
  have HBQ : Hid (w1.heap.size = bq) := hbq
  clear hbq
  go_loopw [12, 13] (fun r i wr => ∃ (k : Nat) (L : List Kn) (v : Value) (al : Option Addr) (cl : Nat), k ≤ ks.length ∧ i = .int .i64 k ∧ r = .slice al L.length cl ∧ Hid (Num.Good L ∧ Fs w1 wr bq v L L al cl))
    (fun _ i _ => ks.length - (intOf i).toNat)
  case atStart => exact ⟨0, [], _, none, 0, Nat.zero_le _, rfl, rfl, Num.Good.nil, HF0.out⟩
  case round =>
    obtain ⟨k, L, v, al, cl, hk, rfl, rfl, HZ⟩ := hrel
    by_cases hkn : k < ks.length
    · have hkz2 : (k : Int) < (ks.length : Int) := by omega
      obtain ⟨blk, off, rfl, hbl, hcs⟩ := HK.out (by omega)
      have hc5 := hcs k hkn
      have hsz := HKW.out ks[k] (List.getElem_mem hkn)
      have HG2 : Hid (Num.Good (Num.addL L (eA ks[k]) ks[k])) := Num.Good.add HZ.out.1 (fun h => eA_ok h)
      have hbw := HB1.out.trans (HZ.out.2.b.mono HB1.out.size)
      have HAD : Hid (Calls Try.prog 33 #[.pointer (some ⟨bq, 0, none⟩), .agg (acs ks[k]).toArray] wr fun e w' => ∃ z, e = .returned z ∧ Hid (∃ v', Fs w1 w' bq v' (Num.addL L (eA ks[k]) ks[k]) L al cl)) := (xadd HZ.out.1 ks[k] (by omega) wr HZ.out.2.x HZ.out.2.b.size).mono fun e w' hh => ⟨_, hh.1, HZ.out.2.af hh.2.out⟩
      have HRA : Hid (∀ W v', Fs w1 W bq v' (Num.addL L (eA ks[k]) ks[k]) L al cl → Calls Try.prog 34 #[.slice al L.length cl, .agg (acs ks[k]).toArray] W fun e w' => ∃ a' c' z, e = .returned (.tuple #[.slice a' (Num.addL L (eA ks[k]) ks[k]).length c', z]) ∧ Hid (Fs w1 w' bq v' (Num.addL L (eA ks[k]) ks[k]) (Num.addL L (eA ks[k]) ks[k]) a' c')) := fun W v' hW => (radd HZ.out.1 ks[k] al cl W hW.r hW.b.size).mono fun e w' hh => by
        obtain ⟨a', c', e1, hr⟩ := hh
        exact ⟨a', c', _, e1, hW.ref hr.out.1 hr.out.2⟩
      generalize Num.addL L (eA ks[k]) ks[k] = L2 at *
      generalize ks[k] = x at *
      obtain ⟨ai, a1, a2, a3, ac⟩ := x
      simp only [acs] at *
      have e0 : w.cell? ⟨blk, off + k * 5, none⟩ = some (.string ai) := hc5 0 (by omega)
      have f0 : wr.cell? ⟨blk, off + k * 5, none⟩ = some (.string ai) := (hbw.cell (p := ⟨blk, _, none⟩) hbl).trans e0
      have e1 : w.cell? ⟨blk, off + k * 5 + 1, none⟩ = some (.int .i64 a1) := hc5 1 (by omega)
      have f1 : wr.cell? ⟨blk, off + k * 5 + 1, none⟩ = some (.int .i64 a1) := (hbw.cell (p := ⟨blk, _, none⟩) hbl).trans e1
      have e2 : w.cell? ⟨blk, off + k * 5 + 2, none⟩ = some (.int .i64 a2) := hc5 2 (by omega)
      have f2 : wr.cell? ⟨blk, off + k * 5 + 2, none⟩ = some (.int .i64 a2) := (hbw.cell (p := ⟨blk, _, none⟩) hbl).trans e2
      have e3 : w.cell? ⟨blk, off + k * 5 + 3, none⟩ = some (.int .i64 a3) := hc5 3 (by omega)
      have f3 : wr.cell? ⟨blk, off + k * 5 + 3, none⟩ = some (.int .i64 a3) := (hbw.cell (p := ⟨blk, _, none⟩) hbl).trans e3
      have e4 : w.cell? ⟨blk, off + k * 5 + 4, none⟩ = some (.string ac) := hc5 4 (by omega)
      have f4 : wr.cell? ⟨blk, off + k * 5 + 4, none⟩ = some (.string ac) := (hbw.cell (p := ⟨blk, _, none⟩) hbl).trans e4
      clear hcs hc5 hbw HZ
      go_wp2_with (first | (go_at_call 33; refine HAD.out.mono ?_; clear HAD; rintro e w3 ⟨z3, rfl, HF3⟩; obtain ⟨v3, hf3⟩ := HF3.out; have hbw3 := HB1.out.trans (hf3.b.mono HB1.out.size); have g0 : w3.cell? ⟨blk, off + k * 5, none⟩ = some (.string ai) := (hbw3.cell (p := ⟨blk, _, none⟩) hbl).trans e0; have g1 : w3.cell? ⟨blk, off + k * 5 + 1, none⟩ = some (.int .i64 a1) := (hbw3.cell (p := ⟨blk, _, none⟩) hbl).trans e1; have g2 : w3.cell? ⟨blk, off + k * 5 + 2, none⟩ = some (.int .i64 a2) := (hbw3.cell (p := ⟨blk, _, none⟩) hbl).trans e2; have g3 : w3.cell? ⟨blk, off + k * 5 + 3, none⟩ = some (.int .i64 a3) := (hbw3.cell (p := ⟨blk, _, none⟩) hbl).trans e3; have g4 : w3.cell? ⟨blk, off + k * 5 + 4, none⟩ = some (.string ac) := (hbw3.cell (p := ⟨blk, _, none⟩) hbl).trans e4; have HRA2 := HRA.out w3 v3 hf3; have HRA3 : Hid (Calls Try.prog 34 #[.slice al L.length cl, .agg #[.string ai, .int .i64 a1, .int .i64 a2, .int .i64 a3, .string ac]] w3 fun e w' => ∃ a' c' z, e = .returned (.tuple #[.slice a' L2.length c', z]) ∧ Hid (Fs w1 w' bq v3 L2 L2 a' c')) := HRA2; clear HRA HRA2 hbw3 hf3 HF3 f0 f1 f2 f3 f4) | (go_at_call 34; refine HRA3.out.mono ?_; clear HRA3; rintro e w4 ⟨a4, c4, z4, rfl, HF4⟩))
      go_roundw
      case rel => exact ⟨k + 1, L2, v3, a4, c4, by omega, by simp, rfl, HG2.out, HF4.out⟩
      case measure => simp [intOf]; omega
    · have hkz2 : ¬ (k : Int) < (ks.length : Int) := by omega
      have HG2 : Hid (Num.Good (setL L ps)) := Num.Good.set HZ.out.1 ps
      have hbw := HB1.out.trans (HZ.out.2.b.mono HB1.out.size)
      have HPR : Hid (∀ W, Below w1.heap.size w1 W → Prs W pa ps) := fun W hW => HP.out.below (HB1.out.trans (hW.mono HB1.out.size))
      have HSE : Hid (Calls Try.prog 35 #[.pointer (some ⟨bq, 0, none⟩), .slice pa ps.length pc] wr fun e w' => ∃ z, e = .returned z ∧ Hid (∃ v', Fs w1 w' bq v' (setL L ps) L al cl)) := (xset HZ.out.1 ps (by omega) pa pc wr HZ.out.2.x (HPR.out _ HZ.out.2.b) HZ.out.2.b.size (fun blk off e h0 => by
          obtain ⟨b2, o2, e2, h2, _⟩ := HP.out h0
          rw [e] at e2
          injection e2 with e2
          injection e2 with e2 _ _
          have hw1 := HB1.out.size
          have hq := HZ.out.2.x.q
          refine ⟨by omega, fun e3 => ?_⟩
          have := (HZ.out.2.x.o.lt blk e3.symm).1
          omega)).mono fun e w' hh => ⟨_, hh.1, HZ.out.2.af hh.2.out⟩
      have HRS : Hid (∀ W v', Fs w1 W bq v' (setL L ps) L al cl → Calls Try.prog 36 #[.slice al L.length cl, .slice pa ps.length pc] W fun e w' => ∃ a' c' z1 z2, e = .returned (.tuple #[.slice a' (setL L ps).length c', z1, z2]) ∧ Hid (Fs w1 w' bq v' (setL L ps) (setL L ps) a' c')) := fun W v' hW => (rset HZ.out.1 ps (by omega) pa pc al cl W hW.r (HPR.out _ hW.b) hW.b.size).mono fun e w' hh => by
        obtain ⟨a', c', e1, hr⟩ := hh
        exact ⟨a', c', _, _, e1, hW.ref hr.out.1 hr.out.2⟩
      have hIN1 := (HIN.out.keep HB1.out).mono HB1.out.size
      have hCN1 := (HC.out.keep HB1.out).mono HB1.out.size
      have HMN : Hid (M.length ≤ 100) := by unfold Hid; omega
      have hex : ∀ x : Lt, ∃ r, x ∈ M → Bt w1 bq (setL L ps) (.agg #[.int .i64 i0, .int .i64 i1, .string s, .int .i64 i3, .int .i64 i4, .int .i64 i5, .slice ca xs.length cc, .int .i64 i7, .int .i64 i8, .slice ba nb bc]) d x.i x.n r := fun x => by
        by_cases hx : x ∈ M
        · have hn64 := HNF.out
          obtain ⟨r, hr⟩ := bt_is i0 i1 i3 i4 i5 i7 i8 s ca ba cc bc xs ys HLC.out (by rw [HNB.out]; omega) x.i x.n d (HLS.out x hx) w1 hCN1 hIN1 (setL L ps) HG2.out bq
          rw [HNB.out] at hr
          exact ⟨r, fun _ => hr⟩
        · exact ⟨(⟨⟨#[]⟩, 0, ⟨⟨#[]⟩, 0, 0, 0, ⟨#[]⟩⟩, 0, 0⟩, 0, false), fun h => absurd h hx⟩
      obtain ⟨f, hf⟩ := Classical.axiomOfChoice hex
      have HLW : Hid (∀ W, Below w1.heap.size w1 W → Rw 2 lcs W la M) := fun W hW => HLT.out.below (HB1.out.trans (hW.mono HB1.out.size))
      have HX37 : Hid (∀ W v al cl, Fs w1 W bq v (setL L ps) (setL L ps) al cl → Calls Try.prog 37 #[.pointer (some ⟨bq, 0, none⟩), .agg #[.int .i64 i0, .int .i64 i1, .string s, .int .i64 i3, .int .i64 i4, .int .i64 i5, .slice ca xs.length cc, .int .i64 i7, .int .i64 i8, .slice ba nb bc], .slice la M.length lc, .int .i64 d] W (ElP f M W)) := fun W v al cl hF => xelig f M (by have := HMN.out; omega) HLS.out (some ⟨bq, 0, none⟩) i0 i1 i3 i4 i5 i7 i8 s ca ba xs.length cc nb bc d la lc W (HLW.out W hF.b) (fun x hx W' hb => (hf x hx).x W' v al cl (hF.below hb)) (fun x hx he W' hb => (hf x hx).f he W' (hF.b.trans (hb.mono hF.b.size))) (fun x hx he => (hf x hx).s he)
      have HX38 : Hid (∀ W v al cl, Fs w1 W bq v (setL L ps) (setL L ps) al cl → Calls Try.prog 38 #[.slice al (setL L ps).length cl, .agg #[.int .i64 i0, .int .i64 i1, .string s, .int .i64 i3, .int .i64 i4, .int .i64 i5, .slice ca xs.length cc, .int .i64 i7, .int .i64 i8, .slice ba nb bc], .slice la M.length lc, .int .i64 d] W (ElP f M W)) := fun W v al cl hF => relig f M (by have := HMN.out; omega) al (setL L ps).length cl i0 i1 i3 i4 i5 i7 i8 s ca ba xs.length cc nb bc d la lc W (HLW.out W hF.b) (fun x hx W' hb => (hf x hx).r W' v al cl (hF.below hb)) (fun x hx he => by
        obtain ⟨y, hy, hc⟩ := (hf x hx).y he
        exact ⟨y, hy, fun W' hb => hc W' (hF.b.trans (hb.mono hF.b.size))⟩)
      have H29 : Hid (∀ W a2 c2 a3 c3, (Rw 9 its W a2 (SS.rnk ltI (elT f M)) ∧ Rw 9 its W a3 (SS.rnk ltI (elT f M))) → Calls Try.prog 29 #[.slice a2 (elT f M).length c2, .slice a3 (elT f M).length c3] W fun e w' => e = .returned (.bool true) ∧ Hid (Below W.heap.size W w')) := fun W a2 c2 a3 c3 hh => by
        have := lsame (SS.rnk ltI (elT f M)) (by rw [SS.rnk_len]; exact Nat.le_trans (elT_len f M) (by have := HMN.out; omega)) a2 a3 c2 c3 W hh.1 hh.2
        rw [SS.rnk_len] at this
        exact this.mono fun e w' h => ⟨h.1, h.2⟩
      have H13 : Hid (∀ W a2 c2 a3 c3, (Rw 2 lcs W a2 (elO f M) ∧ Rw 2 lcs W a3 (elO f M)) → Calls Try.prog 13 #[.slice a2 (elO f M).length c2, .slice a3 (elO f M).length c3] W fun e w' => e = .returned (.bool true) ∧ Hid (Below W.heap.size W w')) := fun W a2 c2 a3 c3 hh => (rlots (elO f M) (Nat.le_trans (elO_len f M) (by have := HMN.out; omega)) a2 c2 a3 c3 W hh.1 hh.2).mono fun e w' h => ⟨h.1, h.2⟩
      have hsum : ((elT f M).length : Int) + ((elO f M).length : Int) = (M.length : Int) := by have := el_sum f M; omega
      have hsw : wrap64 ((elT f M).length + (elO f M).length : Int) = (M.length : Int) := by have := HMN.out; rw [hsum]; exact wN (by omega)
      unfold ElP at HX37 HX38
      clear hbw HPR HP HC HG2 HZ HK HKW hf hex hIN1 hCN1 HIN HLC HLT HLS HNB HNF HLW
      generalize setL L ps = L2 at *
      generalize (elT f M).length = n1 at *
      generalize (elO f M).length = n2 at *
      generalize SS.rnk ltI (elT f M) = T at *
      generalize elO f M = O at *
      clear hm100 HMN
      generalize M.length = n at *
      go_upto_region 12 with (first | (go_at_call 35; refine HSE.out.mono ?_; clear HSE; rintro e w3 ⟨z3, rfl, HFa⟩; obtain ⟨v3, hf3⟩ := HFa.out; have HRS3 := HRS.out w3 v3 hf3; have HRS4 : Hid (Calls Try.prog 36 #[.slice al L.length cl, .slice pa ps.length pc] w3 fun e w' => ∃ a' c' z1 z2, e = .returned (.tuple #[.slice a' L2.length c', z1, z2]) ∧ Hid (Fs w1 w' bq v3 L2 L2 a' c')) := HRS3; clear HRS HRS3 hf3 HFa) | (go_at_call 36; refine HRS4.out.mono ?_; clear HRS4; rintro e w4 ⟨ad4, cp4, z4, z5, rfl, HF4⟩))
      have HX4 : Hid (Bx w4 w.heap.size #[.int .i64 i0, .int .i64 i1, .string s, .int .i64 i3, .int .i64 i4, .int .i64 i5, .slice ca xs.length cc, .int .i64 i7, .int .i64 i8, .slice ba nb bc] 62) := HX1.out.keep HF4.out.b
      have HB4 : Hid (Below w.heap.size w w4) := HB1.out.trans (HF4.out.b.mono HB1.out.size)
      clear HX1
      have c0 : w4.cell? ⟨w.heap.size, 0, none⟩ = some (.int .i64 i0) := HX4.out.cell 0
      have c1 : w4.cell? ⟨w.heap.size, 1, none⟩ = some (.int .i64 i1) := HX4.out.cell 1
      have c2 : w4.cell? ⟨w.heap.size, 2, none⟩ = some (.string s) := HX4.out.cell 2
      have c3 : w4.cell? ⟨w.heap.size, 3, none⟩ = some (.int .i64 i3) := HX4.out.cell 3
      have c4 : w4.cell? ⟨w.heap.size, 4, none⟩ = some (.int .i64 i4) := HX4.out.cell 4
      have c5 : w4.cell? ⟨w.heap.size, 5, none⟩ = some (.int .i64 i5) := HX4.out.cell 5
      have c6 : w4.cell? ⟨w.heap.size, 6, none⟩ = some (.slice ca xs.length cc) := HX4.out.cell 6
      have c7 : w4.cell? ⟨w.heap.size, 7, none⟩ = some (.int .i64 i7) := HX4.out.cell 7
      have c8 : w4.cell? ⟨w.heap.size, 8, none⟩ = some (.int .i64 i8) := HX4.out.cell 8
      have c9 : w4.cell? ⟨w.heap.size, 9, none⟩ = some (.slice ba nb bc) := HX4.out.cell 9
      go_upto_region 13 with (go_at_call 37; refine (HX37.out w4 v3 ad4 cp4 HF4.out).mono ?_; clear HX37; rintro e w5 ⟨b1, e1, b2, e2, rfl, HZ5⟩)
      clear c0 c1 c2 c3 c4 c5 c6 c7 c8 c9
      have HX5 : Hid (Bx w5 w.heap.size #[.int .i64 i0, .int .i64 i1, .string s, .int .i64 i3, .int .i64 i4, .int .i64 i5, .slice ca xs.length cc, .int .i64 i7, .int .i64 i8, .slice ba nb bc] 62) := HX4.out.keep HZ5.out.2.2
      have HF5 := hid_in (HF4.out.below HZ5.out.2.2)
      have HB5 : Hid (Below w.heap.size w w5) := HB4.out.trans (HZ5.out.2.2.mono HB4.out.size)
      clear HX4 HF4 HB4
      have c0 : w5.cell? ⟨w.heap.size, 0, none⟩ = some (.int .i64 i0) := HX5.out.cell 0
      have c1 : w5.cell? ⟨w.heap.size, 1, none⟩ = some (.int .i64 i1) := HX5.out.cell 1
      have c2 : w5.cell? ⟨w.heap.size, 2, none⟩ = some (.string s) := HX5.out.cell 2
      have c3 : w5.cell? ⟨w.heap.size, 3, none⟩ = some (.int .i64 i3) := HX5.out.cell 3
      have c4 : w5.cell? ⟨w.heap.size, 4, none⟩ = some (.int .i64 i4) := HX5.out.cell 4
      have c5 : w5.cell? ⟨w.heap.size, 5, none⟩ = some (.int .i64 i5) := HX5.out.cell 5
      have c6 : w5.cell? ⟨w.heap.size, 6, none⟩ = some (.slice ca xs.length cc) := HX5.out.cell 6
      have c7 : w5.cell? ⟨w.heap.size, 7, none⟩ = some (.int .i64 i7) := HX5.out.cell 7
      have c8 : w5.cell? ⟨w.heap.size, 8, none⟩ = some (.int .i64 i8) := HX5.out.cell 8
      have c9 : w5.cell? ⟨w.heap.size, 9, none⟩ = some (.slice ba nb bc) := HX5.out.cell 9
      go_upto_region 14 with (go_at_call 38; refine (HX38.out w5 v3 ad4 cp4 HF5.out).mono ?_; clear HX38; rintro e w6 ⟨b3, e3, b4, e4, rfl, HZ6⟩)
      clear c0 c1 c2 c3 c4 c5 c6 c7 c8 c9 HX5 HF5
      have HB6 : Hid (Below w.heap.size w w6) := HB5.out.trans (HZ6.out.2.2.mono HB5.out.size)
      have HT6 : Hid (Rw 9 its w6 b1 T ∧ Rw 9 its w6 b3 T) := ⟨HZ5.out.1.below HZ6.out.2.2, HZ6.out.1⟩
      have HO6 : Hid (Rw 2 lcs w6 b2 O ∧ Rw 2 lcs w6 b4 O) := ⟨HZ5.out.2.1.below HZ6.out.2.2, HZ6.out.2.1⟩
      clear HZ5 HZ6 HB5
      go_wp2_with (first | (go_at_call 29; refine (H29.out w6 b1 e1 b3 e3 HT6.out).mono ?_; clear H29; rintro e w7 ⟨rfl, HB7⟩) | (go_at_call 13; refine (H13.out w7 b2 e2 b4 e4 ⟨HO6.out.1.below HB7.out, HO6.out.2.below HB7.out⟩).mono ?_; clear H13; rintro e w8 ⟨rfl, HB8⟩) | (go_at_call 8; refine (HA.out w8).mono ?_; clear HA; rintro e w9 ⟨rfl, HB9⟩))
      go_ret
      have h7 := HB6.out.trans (HB7.out.mono HB6.out.size)
      have h8 := h7.trans (HB8.out.mono h7.size)
      exact ⟨rfl, h8.trans (HB9.mono h8.size)⟩
end
end Go.Proofs.Ytheikjjehidagaa.H5

/- layer 17: securities, prices and a basket, as they are handed in -/
namespace Go.Proofs.Ytheikjjehidagaa.H5
open Go.RowKit
set_option linter.unusedVariables false
set_option linter.unusedSimpArgs false
open Num
open Go.ChangeShapes Go.WideShapes
set_option maxRecDepth 100000
theorem Try.cells45 : Try.prog.cellsOf 45 = 5 := by kernel_rfl
theorem Try.cells108 : Try.prog.cellsOf 108 = 2 := by kernel_rfl
theorem Try.cells94 : Try.prog.cellsOf 94 = 3 := by kernel_rfl
theorem Try.cells59 : Try.prog.cellsOf 59 = 1 := by kernel_rfl
theorem Try.cells60 : Try.prog.cellsOf 60 = 1 := by kernel_rfl
theorem Try.cells62 : Try.prog.cellsOf 62 = 10 := by kernel_rfl
theorem Try.bytes45 : Try.prog.bytesOf 45 = 56 := by kernel_rfl
theorem Try.bytes108 : Try.prog.bytesOf 108 = 24 := by kernel_rfl
theorem Try.bytes94 : Try.prog.bytesOf 94 = 24 := by kernel_rfl
theorem Try.bytes3 : Try.prog.bytesOf 3 = 8 := by kernel_rfl
structure Wt (x : Pr) : Prop where
  s : x.1.size ≤ 140737488351232
  q : Rng x.2
structure Wa (x : As) : Prop where
  i : x.i.size ≤ 140737488351232
  m : Rng x.mat
/-- a basket as it is handed in -/
structure Bq where
  b : N14.Bk
  ca : Option Addr
  cc : Nat
  ba : Option Addr
  bc : Nat
def bqs (x : Bq) : List Value := [.int .i64 x.b.id, .int .i64 x.b.ver, .string ⟨x.b.cur.toArray⟩, .int .i64 x.b.rat, .int .i64 x.b.least, .int .i64 x.b.most, .slice x.ca x.b.cuts.length x.cc, .int .i64 x.b.iss, .int .i64 x.b.ass, .slice x.ba x.b.bar.length x.bc]
def qcs (c : N14.Ct) : List Value := [.int .i64 c.d, .int .i64 c.r, .int .i64 c.c]
def qis (n : Int) : List Value := [.int .i64 n]
structure Wq (w : World) (x : Bq) : Prop where
  c : N14.Cts w.heap.size w x.ca x.b.cuts
  i : N14.Ins w.heap.size w x.ba x.b.bar
  lc : x.b.cuts.length ≤ 9223372036854775807
  lb : x.b.bar.length ≤ 9223372036854775807
def Wz {α : Type} (x : α) : Prop := True
theorem cts_rw {w : World} {a : Option Addr} {xs : List N14.Ct} (h : Rw 3 qcs w a xs) : N14.Cts w.heap.size w a xs := fun h0 => by
  obtain ⟨b, off, e, hl, hc⟩ := h h0
  exact ⟨b, off, e, hl, fun j hj => ⟨hc j hj 0 (by omega), hc j hj 1 (by omega), hc j hj 2 (by omega)⟩⟩
theorem ins_rw {w : World} {a : Option Addr} {xs : List Int} (h : Rw 1 qis w a xs) : N14.Ins w.heap.size w a xs := fun h0 => by
  obtain ⟨b, off, e, hl, hc⟩ := h h0
  refine ⟨b, off, e, hl, fun j hj => ?_⟩
  have := hc j hj 0 (by omega)
  rw [Nat.mul_one, Nat.add_zero] at this
  exact this
section
variable {H : Type} {enc : TypeId × Value → H} {w : World} {base : Nat} {spare : Nat → Bool} {held : Bool}
theorem open_price {fuel : Nat} {cs : List Value} {x : DataW H × List MemPlace} (h : DataW.trod enc Try.prog w base spare held fuel 108 cs = some x) :
    ∃ y : Pr, cs = prc y ∧ Rng y.2 ∧ y.1.size ∈ x.1.weights Try.prog 108 := by
  obtain ⟨xs, m, -, hxx, hl, hxl, hx⟩ := DataW.trod_struct (P := Try.prog) Try.underlying108 h
  rw [Try.cells108] at hl
  match cs, hl with
  | [c0, c1], _ =>
    match xs, hxl with
    | [y0, y1], _ =>
      have h0 : DataW.trod enc Try.prog w base spare held m 9 (([c0, c1].drop 0).take (Try.prog.cellsOf 9)) = some y0 := hx 0 _ rfl
      rw [Try.cells9] at h0
      have h1 : DataW.trod enc Try.prog w base spare held m 3 (([c0, c1].drop 1).take (Try.prog.cellsOf 3)) = some y1 := hx 1 _ rfl
      rw [Try.cells3] at h1
      have hW : ∀ (j : Nat) (t : TypeId) (d : DataW H) (n : Nat), [(9 : TypeId), 3][j]? = some t → [y0.1, y1.1][j]? = some d → n ∈ d.weights Try.prog t → n ∈ x.1.weights Try.prog 108 := by
        intro j t d n ht hd hn
        rw [hxx]
        simp only [DataW.weights, Try.underlying108]
        exact DataW.weights_mem_each (P := Try.prog) (ts := [9, 3]) (ds := [y0.1, y1.1]) ht hd n hn
      obtain ⟨s0, e0, d0, -⟩ := DataW.trod_string Try.underlying9 h0
      obtain ⟨a1, e1, -, w1⟩ := DataW.trod_int Try.underlying3 h1
      simp at e0 e1
      subst e0 e1
      exact ⟨(s0, a1), rfl, wf_rng w1, hW 0 9 y0.1 _ rfl rfl (by rw [d0]; simp [DataW.weights])⟩
theorem open_asset {fuel : Nat} {cs : List Value} {x : DataW H × List MemPlace} (h : DataW.trod enc Try.prog w base spare held fuel 45 cs = some x) (hz : ∀ n, n ∈ x.1.weights Try.prog 45 → n ≤ 140737488351232) :
    ∃ y : As, cs = acs y ∧ Wa y := by
  obtain ⟨xs, m, -, hxx, hl, hxl, hx⟩ := DataW.trod_struct (P := Try.prog) Try.underlying45 h
  rw [Try.cells45] at hl
  match cs, hl with
  | [c0, c1, c2, c3, c4], _ =>
    match xs, hxl with
    | [y0, y1, y2, y3, y4], _ =>
      have h0 : DataW.trod enc Try.prog w base spare held m 9 (([c0, c1, c2, c3, c4].drop 0).take (Try.prog.cellsOf 9)) = some y0 := hx 0 _ rfl
      rw [Try.cells9] at h0
      have h1 : DataW.trod enc Try.prog w base spare held m 3 (([c0, c1, c2, c3, c4].drop 1).take (Try.prog.cellsOf 3)) = some y1 := hx 1 _ rfl
      rw [Try.cells3] at h1
      have h2 : DataW.trod enc Try.prog w base spare held m 3 (([c0, c1, c2, c3, c4].drop 2).take (Try.prog.cellsOf 3)) = some y2 := hx 2 _ rfl
      rw [Try.cells3] at h2
      have h3 : DataW.trod enc Try.prog w base spare held m 3 (([c0, c1, c2, c3, c4].drop 3).take (Try.prog.cellsOf 3)) = some y3 := hx 3 _ rfl
      rw [Try.cells3] at h3
      have h4 : DataW.trod enc Try.prog w base spare held m 9 (([c0, c1, c2, c3, c4].drop 4).take (Try.prog.cellsOf 9)) = some y4 := hx 4 _ rfl
      rw [Try.cells9] at h4
      have hW : ∀ (j : Nat) (t : TypeId) (d : DataW H) (n : Nat), [(9 : TypeId), 3, 3, 3, 9][j]? = some t → [y0.1, y1.1, y2.1, y3.1, y4.1][j]? = some d → n ∈ d.weights Try.prog t → n ∈ x.1.weights Try.prog 45 := by
        intro j t d n ht hd hn
        rw [hxx]
        simp only [DataW.weights, Try.underlying45]
        exact DataW.weights_mem_each (P := Try.prog) (ts := [9, 3, 3, 3, 9]) (ds := [y0.1, y1.1, y2.1, y3.1, y4.1]) ht hd n hn
      obtain ⟨s0, e0, d0, -⟩ := DataW.trod_string Try.underlying9 h0
      obtain ⟨a1, e1, -, w1⟩ := DataW.trod_int Try.underlying3 h1
      obtain ⟨a2, e2, -, w2⟩ := DataW.trod_int Try.underlying3 h2
      obtain ⟨a3, e3, -, w3⟩ := DataW.trod_int Try.underlying3 h3
      obtain ⟨s4, e4, d4, -⟩ := DataW.trod_string Try.underlying9 h4
      simp at e0 e1 e2 e3 e4
      subst e0 e1 e2 e3 e4
      exact ⟨⟨s0, a1, a2, a3, s4⟩, rfl, hz _ (hW 0 9 y0.1 _ rfl rfl (by rw [d0]; simp [DataW.weights])), wf_rng w3⟩
theorem open_prices {fuel : Nat} {cs : List Value} {x : DataW H × List MemPlace} (h : DataW.trod enc Try.prog w base spare held fuel 58 cs = some x) (hz : ∀ n, n ∈ x.1.weights Try.prog 58 → n ≤ 140737488351232) :
    ∃ (xs : List Pr) (a : Option Addr) (cap : Nat), cs = [.slice a xs.length cap] ∧ xs.length ≤ cap ∧ Rw 2 prc w a xs ∧ (∀ y ∈ xs, Wt y) ∧ xs.length * 24 ≤ 140737488351232 := by
  rcases DataW.trod_slice Try.underlying58 h with ⟨rfl, -⟩ | ⟨ad, len, cap, elems, rest, n, -, rfl, hx, hb, hl, hm, hlen, hel, -, -⟩
  · exact ⟨[], none, 0, rfl, Nat.le_refl _, Rw.nil, fun y hy => (List.not_mem_nil hy).elim, by simp⟩
  · have each : ∀ i, i < len → ∃ y : Pr, (∀ j, j < 2 → w.cell? ((ad.add (i * 2)).add j) = (prc y)[j]?) ∧ Wt y := by
      intro i hi
      have h3 := hel i hi
      rw [List.getElem?_eq_getElem (by omega), Try.cells108, Option.bind_eq_some_iff] at h3
      obtain ⟨cs, hcs, hy⟩ := h3
      obtain ⟨-, hl2, hcell⟩ := World.cells?_some hcs
      have hW : ∀ n, n ∈ (elems[i].1).weights Try.prog 108 → n ≤ 140737488351232 := by
        intro n hn
        refine hz n ?_
        rw [hx]
        simp only [DataW.weights, Try.underlying58, List.mem_cons, List.mem_append]
        exact .inr (.inl (weightsAll_mem (List.mem_map.2 ⟨elems[i], List.getElem_mem _, rfl⟩) hn))
      obtain ⟨y, rfl, k1, z1⟩ := open_price hy
      exact ⟨y, fun j hj => hcell j hj, hW _ z1, k1⟩
    obtain ⟨xs, hxl, hq⟩ := collectG len each
    have hwt : xs.length * 24 ≤ 140737488351232 := by
      have := hz ((elems.length + rest.length) * 24) (by
        rw [hx]
        simp only [DataW.weights, Try.underlying58, Try.bytes108, List.length_map]
        exact List.mem_cons_self ..)
      rw [hxl]
      have e : len ≤ elems.length + rest.length := by omega
      have := Nat.mul_le_mul_right 24 e
      omega
    refine ⟨xs, some ad, cap, by rw [hxl], by omega, fun h0 => ?_, fun y hy => ?_, hwt⟩
    · obtain ⟨b, off, spot⟩ := ad
      have hs := (hq 0 (by omega)).1 0 (by omega)
      have hs' : w.cell? (((⟨b, off, spot⟩ : Addr).add (0 * 2)).add 0) = some ((Value.string (xs[0]'h0).1)) := hs
      have hspot : spot = none := by simpa [Addr.add] using World.cell?_spot hs'
      subst hspot
      have hblk := World.block_lt_of_cell? w _ hs'
      have hbl : b < w.heap.size := by simpa [Addr.add] using hblk
      refine ⟨b, off, rfl, hbl, fun i hi j hj => ?_⟩
      have := (hq i hi).1 j hj
      rw [add_flat ⟨b, off, none⟩ rfl, add_flat ⟨b, off + i * 2, none⟩ rfl] at this
      exact this
    · obtain ⟨i, hi, rfl⟩ := List.getElem_of_mem hy
      exact (hq i hi).2
theorem open_assets {fuel : Nat} {cs : List Value} {x : DataW H × List MemPlace} (h : DataW.trod enc Try.prog w base spare held fuel 57 cs = some x) (hz : ∀ n, n ∈ x.1.weights Try.prog 57 → n ≤ 140737488351232) :
    ∃ (xs : List As) (a : Option Addr) (cap : Nat), cs = [.slice a xs.length cap] ∧ xs.length ≤ cap ∧ Rw 5 acs w a xs ∧ (∀ y ∈ xs, Wa y) ∧ xs.length * 56 ≤ 140737488351232 := by
  rcases DataW.trod_slice Try.underlying57 h with ⟨rfl, -⟩ | ⟨ad, len, cap, elems, rest, n, -, rfl, hx, hb, hl, hm, hlen, hel, -, -⟩
  · exact ⟨[], none, 0, rfl, Nat.le_refl _, Rw.nil, fun y hy => (List.not_mem_nil hy).elim, by simp⟩
  · have each : ∀ i, i < len → ∃ y : As, (∀ j, j < 5 → w.cell? ((ad.add (i * 5)).add j) = (acs y)[j]?) ∧ Wa y := by
      intro i hi
      have h3 := hel i hi
      rw [List.getElem?_eq_getElem (by omega), Try.cells45, Option.bind_eq_some_iff] at h3
      obtain ⟨cs, hcs, hy⟩ := h3
      obtain ⟨-, hl2, hcell⟩ := World.cells?_some hcs
      have hW : ∀ n, n ∈ (elems[i].1).weights Try.prog 45 → n ≤ 140737488351232 := by
        intro n hn
        refine hz n ?_
        rw [hx]
        simp only [DataW.weights, Try.underlying57, List.mem_cons, List.mem_append]
        exact .inr (.inl (weightsAll_mem (List.mem_map.2 ⟨elems[i], List.getElem_mem _, rfl⟩) hn))
      obtain ⟨y, rfl, k1⟩ := open_asset hy hW
      exact ⟨y, fun j hj => hcell j hj, k1⟩
    obtain ⟨xs, hxl, hq⟩ := collectG len each
    have hwt : xs.length * 56 ≤ 140737488351232 := by
      have := hz ((elems.length + rest.length) * 56) (by
        rw [hx]
        simp only [DataW.weights, Try.underlying57, Try.bytes45, List.length_map]
        exact List.mem_cons_self ..)
      rw [hxl]
      have e : len ≤ elems.length + rest.length := by omega
      have := Nat.mul_le_mul_right 56 e
      omega
    refine ⟨xs, some ad, cap, by rw [hxl], by omega, fun h0 => ?_, fun y hy => ?_, hwt⟩
    · obtain ⟨b, off, spot⟩ := ad
      have hs := (hq 0 (by omega)).1 0 (by omega)
      have hs' : w.cell? (((⟨b, off, spot⟩ : Addr).add (0 * 5)).add 0) = some (Value.string (xs[0]'h0).i) := hs
      have hspot : spot = none := by simpa [Addr.add] using World.cell?_spot hs'
      subst hspot
      have hblk := World.block_lt_of_cell? w _ hs'
      have hbl : b < w.heap.size := by simpa [Addr.add] using hblk
      refine ⟨b, off, rfl, hbl, fun i hi j hj => ?_⟩
      have := (hq i hi).1 j hj
      rw [add_flat ⟨b, off, none⟩ rfl, add_flat ⟨b, off + i * 5, none⟩ rfl] at this
      exact this
    · obtain ⟨i, hi, rfl⟩ := List.getElem_of_mem hy
      exact (hq i hi).2
theorem open_cut {fuel : Nat} {cs : List Value} {x : DataW H × List MemPlace} (h : DataW.trod enc Try.prog w base spare held fuel 94 cs = some x) (hz : ∀ n, n ∈ x.1.weights Try.prog 94 → n ≤ 140737488351232) :
    ∃ y : N14.Ct, cs = qcs y ∧ Wz y := by
  obtain ⟨xs, m, -, hxx, hl, hxl, hx⟩ := DataW.trod_struct (P := Try.prog) Try.underlying94 h
  rw [Try.cells94] at hl
  match cs, hl with
  | [c0, c1, c2], _ =>
    match xs, hxl with
    | [y0, y1, y2], _ =>
      have h0 : DataW.trod enc Try.prog w base spare held m 3 (([c0, c1, c2].drop 0).take (Try.prog.cellsOf 3)) = some y0 := hx 0 _ rfl
      rw [Try.cells3] at h0
      have h1 : DataW.trod enc Try.prog w base spare held m 3 (([c0, c1, c2].drop 1).take (Try.prog.cellsOf 3)) = some y1 := hx 1 _ rfl
      rw [Try.cells3] at h1
      have h2 : DataW.trod enc Try.prog w base spare held m 3 (([c0, c1, c2].drop 2).take (Try.prog.cellsOf 3)) = some y2 := hx 2 _ rfl
      rw [Try.cells3] at h2
      have hW : ∀ (j : Nat) (t : TypeId) (d : DataW H) (n : Nat), [(3 : TypeId), 3, 3][j]? = some t → [y0.1, y1.1, y2.1][j]? = some d → n ∈ d.weights Try.prog t → n ∈ x.1.weights Try.prog 94 := by
        intro j t d n ht hd hn
        rw [hxx]
        simp only [DataW.weights, Try.underlying94]
        exact DataW.weights_mem_each (P := Try.prog) (ts := [3, 3, 3]) (ds := [y0.1, y1.1, y2.1]) ht hd n hn
      obtain ⟨a0, e0, -, w0⟩ := DataW.trod_int Try.underlying3 h0
      obtain ⟨a1, e1, -, w1⟩ := DataW.trod_int Try.underlying3 h1
      obtain ⟨a2, e2, -, w2⟩ := DataW.trod_int Try.underlying3 h2
      simp at e0 e1 e2
      subst e0 e1 e2
      exact ⟨⟨a0, a1, a2⟩, rfl, trivial⟩
theorem open_cuts {fuel : Nat} {cs : List Value} {x : DataW H × List MemPlace} (h : DataW.trod enc Try.prog w base spare held fuel 59 cs = some x) (hz : ∀ n, n ∈ x.1.weights Try.prog 59 → n ≤ 140737488351232) :
    ∃ (xs : List N14.Ct) (a : Option Addr) (cap : Nat), cs = [.slice a xs.length cap] ∧ xs.length ≤ cap ∧ Rw 3 qcs w a xs ∧ (∀ y ∈ xs, Wz y) ∧ xs.length * 24 ≤ 140737488351232 := by
  rcases DataW.trod_slice Try.underlying59 h with ⟨rfl, -⟩ | ⟨ad, len, cap, elems, rest, n, -, rfl, hx, hb, hl, hm, hlen, hel, -, -⟩
  · exact ⟨[], none, 0, rfl, Nat.le_refl _, Rw.nil, fun y hy => (List.not_mem_nil hy).elim, by simp⟩
  · have each : ∀ i, i < len → ∃ y : N14.Ct, (∀ j, j < 3 → w.cell? ((ad.add (i * 3)).add j) = (qcs y)[j]?) ∧ Wz y := by
      intro i hi
      have h3 := hel i hi
      rw [List.getElem?_eq_getElem (by omega), Try.cells94, Option.bind_eq_some_iff] at h3
      obtain ⟨cs, hcs, hy⟩ := h3
      obtain ⟨-, hl2, hcell⟩ := World.cells?_some hcs
      have hW : ∀ n, n ∈ (elems[i].1).weights Try.prog 94 → n ≤ 140737488351232 := by
        intro n hn
        refine hz n ?_
        rw [hx]
        simp only [DataW.weights, Try.underlying59, List.mem_cons, List.mem_append]
        exact .inr (.inl (weightsAll_mem (List.mem_map.2 ⟨elems[i], List.getElem_mem _, rfl⟩) hn))
      obtain ⟨y, rfl, k1⟩ := open_cut hy hW
      exact ⟨y, fun j hj => hcell j hj, k1⟩
    obtain ⟨xs, hxl, hq⟩ := collectG len each
    have hwt : xs.length * 24 ≤ 140737488351232 := by
      have := hz ((elems.length + rest.length) * 24) (by
        rw [hx]
        simp only [DataW.weights, Try.underlying59, Try.bytes94, List.length_map]
        exact List.mem_cons_self ..)
      rw [hxl]
      have e : len ≤ elems.length + rest.length := by omega
      have := Nat.mul_le_mul_right 24 e
      omega
    refine ⟨xs, some ad, cap, by rw [hxl], by omega, fun h0 => ?_, fun y hy => ?_, hwt⟩
    · obtain ⟨b, off, spot⟩ := ad
      have hs := (hq 0 (by omega)).1 0 (by omega)
      have hs' : w.cell? (((⟨b, off, spot⟩ : Addr).add (0 * 3)).add 0) = some (Value.int .i64 (xs[0]'h0).d) := hs
      have hspot : spot = none := by simpa [Addr.add] using World.cell?_spot hs'
      subst hspot
      have hblk := World.block_lt_of_cell? w _ hs'
      have hbl : b < w.heap.size := by simpa [Addr.add] using hblk
      refine ⟨b, off, rfl, hbl, fun i hi j hj => ?_⟩
      have := (hq i hi).1 j hj
      rw [add_flat ⟨b, off, none⟩ rfl, add_flat ⟨b, off + i * 3, none⟩ rfl] at this
      exact this
    · obtain ⟨i, hi, rfl⟩ := List.getElem_of_mem hy
      exact (hq i hi).2
theorem open_one {fuel : Nat} {cs : List Value} {x : DataW H × List MemPlace} (h : DataW.trod enc Try.prog w base spare held fuel 3 cs = some x) (hz : ∀ n, n ∈ x.1.weights Try.prog 3 → n ≤ 140737488351232) : ∃ y : Int, cs = qis y ∧ Wz y := by
  obtain ⟨a, e, -, -⟩ := DataW.trod_int Try.underlying3 h
  exact ⟨a, e, trivial⟩
theorem open_bars {fuel : Nat} {cs : List Value} {x : DataW H × List MemPlace} (h : DataW.trod enc Try.prog w base spare held fuel 60 cs = some x) (hz : ∀ n, n ∈ x.1.weights Try.prog 60 → n ≤ 140737488351232) :
    ∃ (xs : List Int) (a : Option Addr) (cap : Nat), cs = [.slice a xs.length cap] ∧ xs.length ≤ cap ∧ Rw 1 qis w a xs ∧ (∀ y ∈ xs, Wz y) ∧ xs.length * 8 ≤ 140737488351232 := by
  rcases DataW.trod_slice Try.underlying60 h with ⟨rfl, -⟩ | ⟨ad, len, cap, elems, rest, n, -, rfl, hx, hb, hl, hm, hlen, hel, -, -⟩
  · exact ⟨[], none, 0, rfl, Nat.le_refl _, Rw.nil, fun y hy => (List.not_mem_nil hy).elim, by simp⟩
  · have each : ∀ i, i < len → ∃ y : Int, (∀ j, j < 1 → w.cell? ((ad.add (i * 1)).add j) = (qis y)[j]?) ∧ Wz y := by
      intro i hi
      have h3 := hel i hi
      rw [List.getElem?_eq_getElem (by omega), Try.cells3, Option.bind_eq_some_iff] at h3
      obtain ⟨cs, hcs, hy⟩ := h3
      obtain ⟨-, hl2, hcell⟩ := World.cells?_some hcs
      have hW : ∀ n, n ∈ (elems[i].1).weights Try.prog 3 → n ≤ 140737488351232 := by
        intro n hn
        refine hz n ?_
        rw [hx]
        simp only [DataW.weights, Try.underlying60, List.mem_cons, List.mem_append]
        exact .inr (.inl (weightsAll_mem (List.mem_map.2 ⟨elems[i], List.getElem_mem _, rfl⟩) hn))
      obtain ⟨y, rfl, k1⟩ := open_one hy hW
      exact ⟨y, fun j hj => hcell j hj, k1⟩
    obtain ⟨xs, hxl, hq⟩ := collectG len each
    have hwt : xs.length * 8 ≤ 140737488351232 := by
      have := hz ((elems.length + rest.length) * 8) (by
        rw [hx]
        simp only [DataW.weights, Try.underlying60, Try.bytes3, List.length_map]
        exact List.mem_cons_self ..)
      rw [hxl]
      have e : len ≤ elems.length + rest.length := by omega
      have := Nat.mul_le_mul_right 8 e
      omega
    refine ⟨xs, some ad, cap, by rw [hxl], by omega, fun h0 => ?_, fun y hy => ?_, hwt⟩
    · obtain ⟨b, off, spot⟩ := ad
      have hs := (hq 0 (by omega)).1 0 (by omega)
      have hs' : w.cell? (((⟨b, off, spot⟩ : Addr).add (0 * 1)).add 0) = some (Value.int .i64 (xs[0]'h0)) := hs
      have hspot : spot = none := by simpa [Addr.add] using World.cell?_spot hs'
      subst hspot
      have hblk := World.block_lt_of_cell? w _ hs'
      have hbl : b < w.heap.size := by simpa [Addr.add] using hblk
      refine ⟨b, off, rfl, hbl, fun i hi j hj => ?_⟩
      have := (hq i hi).1 j hj
      rw [add_flat ⟨b, off, none⟩ rfl, add_flat ⟨b, off + i * 1, none⟩ rfl] at this
      exact this
    · obtain ⟨i, hi, rfl⟩ := List.getElem_of_mem hy
      exact (hq i hi).2
theorem open_basket {fuel : Nat} {cs : List Value} {x : DataW H × List MemPlace} (h : DataW.trod enc Try.prog w base spare held fuel 62 cs = some x) (hz : ∀ n, n ∈ x.1.weights Try.prog 62 → n ≤ 140737488351232) :
    ∃ y : Bq, cs = bqs y ∧ Wq w y := by
  obtain ⟨xs, m, -, hxx, hl, hxl, hx⟩ := DataW.trod_struct (P := Try.prog) Try.underlying62 h
  rw [Try.cells62] at hl
  match cs, hl with
  | [c0, c1, c2, c3, c4, c5, c6, c7, c8, c9], _ =>
    match xs, hxl with
    | [y0, y1, y2, y3, y4, y5, y6, y7, y8, y9], _ =>
      have h0 : DataW.trod enc Try.prog w base spare held m 3 (([c0, c1, c2, c3, c4, c5, c6, c7, c8, c9].drop 0).take (Try.prog.cellsOf 3)) = some y0 := hx 0 _ rfl
      rw [Try.cells3] at h0
      have h1 : DataW.trod enc Try.prog w base spare held m 3 (([c0, c1, c2, c3, c4, c5, c6, c7, c8, c9].drop 1).take (Try.prog.cellsOf 3)) = some y1 := hx 1 _ rfl
      rw [Try.cells3] at h1
      have h2 : DataW.trod enc Try.prog w base spare held m 9 (([c0, c1, c2, c3, c4, c5, c6, c7, c8, c9].drop 2).take (Try.prog.cellsOf 9)) = some y2 := hx 2 _ rfl
      rw [Try.cells9] at h2
      have h3 : DataW.trod enc Try.prog w base spare held m 3 (([c0, c1, c2, c3, c4, c5, c6, c7, c8, c9].drop 3).take (Try.prog.cellsOf 3)) = some y3 := hx 3 _ rfl
      rw [Try.cells3] at h3
      have h4 : DataW.trod enc Try.prog w base spare held m 3 (([c0, c1, c2, c3, c4, c5, c6, c7, c8, c9].drop 4).take (Try.prog.cellsOf 3)) = some y4 := hx 4 _ rfl
      rw [Try.cells3] at h4
      have h5 : DataW.trod enc Try.prog w base spare held m 3 (([c0, c1, c2, c3, c4, c5, c6, c7, c8, c9].drop 5).take (Try.prog.cellsOf 3)) = some y5 := hx 5 _ rfl
      rw [Try.cells3] at h5
      have h6 : DataW.trod enc Try.prog w base spare held m 59 (([c0, c1, c2, c3, c4, c5, c6, c7, c8, c9].drop 6).take (Try.prog.cellsOf 59)) = some y6 := hx 6 _ rfl
      rw [Try.cells59] at h6
      have h7 : DataW.trod enc Try.prog w base spare held m 3 (([c0, c1, c2, c3, c4, c5, c6, c7, c8, c9].drop 7).take (Try.prog.cellsOf 3)) = some y7 := hx 7 _ rfl
      rw [Try.cells3] at h7
      have h8 : DataW.trod enc Try.prog w base spare held m 3 (([c0, c1, c2, c3, c4, c5, c6, c7, c8, c9].drop 8).take (Try.prog.cellsOf 3)) = some y8 := hx 8 _ rfl
      rw [Try.cells3] at h8
      have h9 : DataW.trod enc Try.prog w base spare held m 60 (([c0, c1, c2, c3, c4, c5, c6, c7, c8, c9].drop 9).take (Try.prog.cellsOf 60)) = some y9 := hx 9 _ rfl
      rw [Try.cells60] at h9
      have hW : ∀ (j : Nat) (t : TypeId) (d : DataW H) (n : Nat), [(3 : TypeId), 3, 9, 3, 3, 3, 59, 3, 3, 60][j]? = some t → [y0.1, y1.1, y2.1, y3.1, y4.1, y5.1, y6.1, y7.1, y8.1, y9.1][j]? = some d → n ∈ d.weights Try.prog t → n ∈ x.1.weights Try.prog 62 := by
        intro j t d n ht hd hn
        rw [hxx]
        simp only [DataW.weights, Try.underlying62]
        exact DataW.weights_mem_each (P := Try.prog) (ts := [3, 3, 9, 3, 3, 3, 59, 3, 3, 60]) (ds := [y0.1, y1.1, y2.1, y3.1, y4.1, y5.1, y6.1, y7.1, y8.1, y9.1]) ht hd n hn
      obtain ⟨a0, e0, -, w0⟩ := DataW.trod_int Try.underlying3 h0
      obtain ⟨a1, e1, -, w1⟩ := DataW.trod_int Try.underlying3 h1
      obtain ⟨s2, e2, d2, -⟩ := DataW.trod_string Try.underlying9 h2
      have z2 : s2.size ≤ 140737488351232 := hz _ (hW 2 9 y2.1 _ rfl rfl (by rw [d2]; simp [DataW.weights]))
      obtain ⟨a3, e3, -, w3⟩ := DataW.trod_int Try.underlying3 h3
      obtain ⟨a4, e4, -, w4⟩ := DataW.trod_int Try.underlying3 h4
      obtain ⟨a5, e5, -, w5⟩ := DataW.trod_int Try.underlying3 h5
      obtain ⟨xs6, ad6, cap6, e6, le6, t6, q6, n6⟩ := open_cuts (show DataW.trod enc Try.prog w base spare held m 59 [c6] = some y6 from h6) (fun n hn => hz n (hW 6 59 y6.1 n rfl rfl hn))
      simp only [List.cons.injEq, and_true] at e6
      obtain rfl := e6
      obtain ⟨a7, e7, -, w7⟩ := DataW.trod_int Try.underlying3 h7
      obtain ⟨a8, e8, -, w8⟩ := DataW.trod_int Try.underlying3 h8
      obtain ⟨xs9, ad9, cap9, e9, le9, t9, q9, n9⟩ := open_bars (show DataW.trod enc Try.prog w base spare held m 60 [c9] = some y9 from h9) (fun n hn => hz n (hW 9 60 y9.1 n rfl rfl hn))
      simp only [List.cons.injEq, and_true] at e9
      obtain rfl := e9
      simp at e0 e1 e2 e3 e4 e5 e7 e8
      subst e0 e1 e2 e3 e4 e5 e7 e8
      exact ⟨⟨⟨a0, a1, s2.data.toList, a3, a4, a5, xs6, a7, a8, xs9⟩, ad6, cap6, ad9, cap9⟩, rfl, cts_rw t6, ins_rw t9, by simp only; omega, by simp only; omega⟩
end
end Go.Proofs.Ytheikjjehidagaa.H5
