/- The law DiskStays. -/
import Derived.Test.YtfdebooimbbdbaaV
import Derived.WalkKit
import Derived.ProofKit
import Derived.Handy
import Derived.WalkLawsBesides
import Derived.WalkSpells
import Derived.BigQuiet
import Derived.BigCall
import Derived.Deep.QuietTactic
import Derived.Deep.Light
import Derived.Deep.OwnRows
import Derived.Laws.AppendOwnNone
import Derived.Laws.Strings3
import Derived.Laws.RangeAny
import Derived.Deep.RegionWith
import Derived.Lib.BitFns
import Derived.Lib.Walk
import Derived.Lib.Strings
import Derived.Lib.OthersKept
import Derived.Deep.CutBlock
import Derived.Deep.DeepCutAuto
import Derived.Deep.LoopGhost
import Derived.Deep.RegionHeld3
import Derived.Lib.SmallJoins
import Derived.Maps.AppendAt
import Derived.Laws.IdiomStrings
import Derived.Lib.AppendZeros
import Derived.Deep.WholeRow
namespace Go.Proofs.Ytfdebooimbbdbaa
open Go.RowKit
set_option linter.unusedVariables false
set_option linter.unusedSimpArgs false
/-- what holds in the law's first loop -/
structure W1 (B p q : Nat) (S : St) (w wr : World) : Prop where
  both : Both B p q S wr
  bel : Below B w wr
  gone : S.gone = false
  lim : S.lim < 0
theorem W1.below {B p q : Nat} {S : St} {w wr w' : World} (h : W1 B p q S w wr) (hb : Below wr.heap.size wr w') : W1 B p q S w w' := by
  obtain ⟨V, hd⟩ := h.both.dk
  exact ⟨h.both.below hb, h.bel.trans (hb.mono hd.bw), h.gone, h.lim⟩
/-- one call more -/
theorem W1.does {B p q : Nat} {S : St} {w wr : World} (h : W1 B p q S w wr) (X : ActD) (hX : X.Good) (hc : X.c < 2) : Calls Try.prog 10 #[.pointer (some ⟨p, 0, none⟩), .pointer (some ⟨q, 0, none⟩), .agg X.cells] wr fun e w' => e = .returned (.bool true) ∧ ∃ T, W1 B p q T w w' := by
  refine (ldoes B p q S wr h.both X.c X.i X.t X.n X.K hX.t hX.n hX.K).mono ?_
  rintro e w' ⟨rfl, hb, hw⟩
  have hf := step_free h.gone h.lim X.c X.i X.t X.n X.K hc
  exact ⟨rfl, _, hb, h.bel.trans hw, hf.1, hf.2⟩
set_option maxRecDepth 100000 in
set_option maxHeartbeats 4000000 in
theorem lstays (A1 A2 : List ActD) (a1 a2 : Option Addr) (cap1 cap2 : Nat) (K G : Nat → Int) (hK : ∀ j, -9223372036854775808 ≤ K j ∧ K j ≤ 9223372036854775807) (hG : ∀ j, -9223372036854775808 ≤ G j ∧ G j ≤ 9223372036854775807) (w : World) (h1 : Acts w a1 A1) (h2 : Acts w a2 A2) : Calls Try.prog 4 #[.slice a1 A1.length cap1, .slice a2 A2.length cap2, .agg (kcells K), .agg (kcells G)] w fun e w' => e = .returned (.bool true) ∧ Below w.heap.size w w' := by
  have hb0 : Below w.heap.size w ((w.alloc (.cells (kcells K) 31)).alloc (.cells (kcells G) 31)) := by go_grown
  have B0 : Hid (Below w.heap.size w ((w.alloc (.cells (kcells K) 31)).alloc (.cells (kcells G) 31))) := hb0
  have X1 : Hid (Acts ((w.alloc (.cells (kcells K) 31)).alloc (.cells (kcells G) 31)) a1 A1) := h1.below hb0
  have X2 : Hid (Acts ((w.alloc (.cells (kcells K) 31)).alloc (.cells (kcells G) 31)) a2 A2) := h2.below hb0
  have e1 : (w.alloc (.cells (kcells K) 31)).heap.size = w.heap.size + 1 := by simp
  have hgn := heap_alloc_new (w.alloc (.cells (kcells K) 31)) (.cells (kcells G) 31)
  rw [e1] at hgn
  have HG0 : Hid (((w.alloc (.cells (kcells K) 31)).alloc (.cells (kcells G) 31)).heap[w.heap.size + 1]? = some (.cells (kcells G) 31 (0, 0))) := hgn
  have HK0 : Hid (((w.alloc (.cells (kcells K) 31)).alloc (.cells (kcells G) 31)).heap[w.heap.size]? = some (.cells (kcells K) 31 (0, 0))) := (Below.heap_alloc _ _ _ (by rw [e1]; omega)).trans (heap_alloc_new w _)
  have HK : Hid (∀ j, -9223372036854775808 ≤ K j ∧ K j ≤ 9223372036854775807) := hK
  have HG : Hid (∀ j, -9223372036854775808 ≤ G j ∧ G j ≤ 9223372036854775807) := hG
  have hl1 : (A1.length : Int) ≤ 140737488355328 := by have := h1.len; omega
  have hl2 : (A2.length : Int) ≤ 140737488355328 := by have := h2.len; omega
  clear hb0 h1 h2 e1 hgn hK hG
  unfold kcells
  go_enter Try.func4, Try.ntmps4
  go_upto_region 1 with fail
  show Code.wp _ _ _ _ ((w.alloc (.cells (kcells K) 31)).alloc (.cells (kcells G) 31))
  generalize (w.alloc (.cells (kcells K) 31)).alloc (.cells (kcells G) 31) = w0 at *
  generalize hz : w.heap.size = z at *
  have HZ : Hid (w.heap.size = z) := hz
  clear hz
  go_wp2_with fail
  refine (xnew w0.heap.size _ (Nat.le_refl _)).mono ?_
  rintro e w1 ⟨rfl, ⟨V1, hd1⟩, hb1⟩
  have D1 : Hid (Dk w0.heap.size w1 w0.heap.size new V1) := hd1
  have B1 : Hid (Below w0.heap.size w0 w1) := hb1
  clear hd1 hb1
  go_wp2_with fail
  refine (rnewE w1).mono ?_
  rintro e w2 ⟨rfl, hb2⟩
  have H0 : Hid (W1 w0.heap.size w0.heap.size w2.heap.size new w0 (w2.alloc (.cells (rcells new) 29))) := ⟨both_new D1.out hb2, (B1.out.trans (hb2.mono B1.out.size)).alloc (Nat.le_trans B1.out.size hb2.size) _, rfl, by show (-1 : Int) < 0; decide⟩
  clear D1 B1 hb2
  go_upto_region 3 with fail
  show Code.wp _ _ _ _ (w2.alloc (.cells (rcells new) 29))
  generalize w2.alloc (.cells (rcells new) 29) = w3 at *
  generalize w2.heap.size = q at *
  generalize hp : w0.heap.size = p at *
  have HP : Hid (w0.heap.size = p) := hp
  clear hp
  go_loopw [11] (fun i wr => ∃ (k : Nat) (S : St), k ≤ 60 ∧ i = .int .i64 k ∧ Hid (W1 p p q S w0 wr)) (fun i _ => 60 - (intOf i).toNat)
  case atStart => exact ⟨0, new, by omega, rfl, H0.out⟩
  case round =>
    clear H0
    obtain ⟨k, S, hk, rfl, HS⟩ := hrel
    by_cases hcont : (k : Int) < (A1.length : Int) + A2.length ∧ (k : Int) < 60
    · obtain ⟨hlt, h60⟩ := hcont
      have HN : Hid (∀ (X : ActD), X.Good → W1 p p q S w0 (wr.alloc (.cells X.cells 33)) ∧ (X.c < 2 → Calls Try.prog 10 #[.pointer (some ⟨p, 0, none⟩), .pointer (some ⟨q, 0, none⟩), .agg X.cells] (wr.alloc (.cells X.cells 33)) fun e w' => e = .returned (.bool true) ∧ ∃ T, Hid (W1 p p q T w0 w'))) := by
        intro X hX
        have h := HS.out.below (w' := wr.alloc (.cells X.cells 33)) ((Below.refl _ _).alloc (Nat.le_refl _) _)
        exact ⟨h, fun hc => h.does X hX hc⟩
      have HE : Hid (∃ (b off j : Nat) (X : ActD), X.Good ∧ b < wr.heap.size ∧ (((k : Int) < A1.length ∧ a1 = some ⟨b, off, none⟩ ∧ j = k) ∨ (¬ (k : Int) < A1.length ∧ a2 = some ⟨b, off, none⟩ ∧ (k : Int) - A1.length = j ∧ (j : Int) < A2.length)) ∧ ∀ o, o < 8 → wr.cell? ⟨b, off + j * 8 + o, none⟩ = X.cells[o]?) := by
        by_cases c : (k : Int) < A1.length
        · obtain ⟨b, off, e, hbl, hce⟩ := X1.out.at_ (by omega)
          have hk1 : k < A1.length := by omega
          exact ⟨b, off, k, A1[k], X1.out.good _ (List.getElem_mem hk1), Nat.lt_of_lt_of_le hbl HS.out.bel.size, .inl ⟨c, e, rfl⟩, fun o ho => (HS.out.bel.cell (by rw [← HP.out]; exact hbl)).trans (hce k hk1 o ho)⟩
        · obtain ⟨b, off, e, hbl, hce⟩ := X2.out.at_ (by omega)
          have hk1 : k - A1.length < A2.length := by omega
          exact ⟨b, off, k - A1.length, A2[k - A1.length], X2.out.good _ (List.getElem_mem hk1), Nat.lt_of_lt_of_le hbl HS.out.bel.size, .inr ⟨c, e, by omega, by omega⟩, fun o ho => (HS.out.bel.cell (by rw [← HP.out]; exact hbl)).trans (hce _ hk1 o ho)⟩
      obtain ⟨b, off, j, X, hX, hbl, hcase, hce⟩ := HE.out
      obtain ⟨HN1, HN2⟩ := HN.out X hX
      obtain ⟨x0, x1, x2, x3, x4, x5, x6, x7⟩ := eight hce
      have HN1 : Hid (W1 p p q S w0 (wr.alloc (.cells X.cells 33))) := HN1
      have HN2 : Hid (X.c < 2 → Calls Try.prog 10 #[.pointer (some ⟨p, 0, none⟩), .pointer (some ⟨q, 0, none⟩), .agg X.cells] (wr.alloc (.cells X.cells 33)) fun e w' => e = .returned (.bool true) ∧ ∃ T, Hid (W1 p p q T w0 w')) := HN2
      have hXc := hX.c
      clear HN HE hce hX
      rcases hcase with ⟨hc, rfl, rfl⟩ | ⟨hc, rfl, hj, hj2⟩
      · go_upto_region 9 with fail
        clear x0 x1 x2 x3 x4 x5 x6 x7
        by_cases hc2 : X.c < 2
        · by_cases ht : (X.t.size : Int) ≤ 20000
          · go_wp2_with fail
            refine (HN2.out hc2).mono ?_
            rintro e w4 ⟨rfl, T, HT⟩
            go_wp2_with fail
            exact ⟨⟨j + 1, T, by omega, by go_num, HT⟩, by simp [intOf]; omega⟩
          · go_wp2_with fail
            exact ⟨⟨j + 1, S, by omega, by go_num, HN1⟩, by simp [intOf]; omega⟩
        · go_wp2_with fail
          exact ⟨⟨j + 1, S, by omega, by go_num, HN1⟩, by simp [intOf]; omega⟩
      · go_upto_region 9 with fail
        clear x0 x1 x2 x3 x4 x5 x6 x7
        by_cases hc2 : X.c < 2
        · by_cases ht : (X.t.size : Int) ≤ 20000
          · go_wp2_with fail
            refine (HN2.out hc2).mono ?_
            rintro e w4 ⟨rfl, T, HT⟩
            go_wp2_with fail
            exact ⟨⟨k + 1, T, by omega, by go_num, HT⟩, by simp [intOf]; omega⟩
          · go_wp2_with fail
            exact ⟨⟨k + 1, S, by omega, by go_num, HN1⟩, by simp [intOf]; omega⟩
        · go_wp2_with fail
          exact ⟨⟨k + 1, S, by omega, by go_num, HN1⟩, by simp [intOf]; omega⟩
    · have hex : ¬ (k : Int) < (A1.length : Int) + A2.length ∨ ((k : Int) < (A1.length : Int) + A2.length ∧ ¬ (k : Int) < 60) := by omega
      have H2 : Hid (W2 p p wr.heap.size (wr.heap.size + 1) S 0 0 w0 ((wr.alloc (.cells (scells S.f 0) 39)).alloc (.cells (fcells S.s 0) 31))) := by
        obtain ⟨V, hd⟩ := HS.out.both.dk
        have e1 : (wr.alloc (.cells (scells S.f 0) 39)).heap.size = wr.heap.size + 1 := by simp
        have hn := heap_alloc_new (wr.alloc (.cells (scells S.f 0) 39)) (.cells (fcells S.s 0) 31)
        rw [e1] at hn
        refine ⟨⟨V, (hd.alloc _).alloc _⟩, (Below.heap_alloc _ _ _ (by rw [e1]; omega)).trans (heap_alloc_new wr _), hn, (HS.out.bel.alloc hd.bw _).alloc (by have := hd.bw; rw [e1]; omega) _, hd.bw, by have := hd.bw; omega⟩
      have HO : Hid (Ok S) := HS.out.both.ok
      have HGo : Hid (S.gone = false) := HS.out.gone
      clear hcont HS X1 X2
      rcases hex with hex | ⟨hex, hex2⟩
      · go_upto_region 14 with fail
        show Code.wp _ _ _ _ ((wr.alloc (.cells (scells S.f 0) 39)).alloc (.cells (fcells S.s 0) 31))
        generalize (wr.alloc (.cells (scells S.f 0) 39)).alloc (.cells (fcells S.s 0) 31) = w4 at *
        generalize wr.heap.size = za at *
        generalize hzf : za + 1 = zf at *
        clear hzf
        go_loopw [15] (fun i wr => ∃ m : Nat, m ≤ 4 ∧ i = .int .i64 m ∧ Hid (W2 p p za zf S m m w0 wr)) (fun i _ => 4 - (intOf i).toNat)
        case atStart => exact ⟨0, by omega, rfl, H2.out⟩
        case round =>
          clear H2
          obtain ⟨m, hm, rfl, HW⟩ := hrel
          by_cases hlt : m < 4
          · have hm4 : (m : Int) < 4 := by omega
            have h0 : chk S m = 0 := chk_free HGo.out hlt
            have HRd : Hid (Calls Try.prog 13 #[.pointer (some ⟨p, 0, none⟩), .int .i64 m] wr fun e w' => e = .returned (.tuple #[.string (S.f m), .int .i64 0]) ∧ wr = w') := by
              obtain ⟨V, hd⟩ := HW.out.dk
              have := xread p p S V wr hd m
              rw [rd_ok h0, h0] at this
              exact this
            obtain ⟨y, hy⟩ : ∃ y : Int, ((S.f m).size : Int) - S.s m = y := ⟨_, rfl⟩
            have HLt : Hid (Calls Try.prog 14 #[.pointer (some ⟨p, 0, none⟩), .int .i64 m] (wr.setCell ⟨za, m, none⟩ (.string (S.f m))) fun e w' => e = .returned (.int .i64 y) ∧ Hid (W2 p p za zf S (m + 1) m w0 w')) := by
              have h5 := HW.out.setA hlt
              obtain ⟨V, hd⟩ := h5.dk
              have := xlateD p p S V _ hd HO.out m
              rw [lt_ok h0 HO.out, hy] at this
              refine this.mono ?_
              rintro e w' ⟨rfl, n', rfl⟩
              exact ⟨rfl, h5.drewN n'⟩
            have hy1 : ((S.f m).size : Int) - y = S.s m := by omega
            have hs1 : (S.s m : Int) ≤ (S.f m).size := by have := HO.out.safe m; omega
            have hs2 : ((S.f m).size : Int) ≤ 1048576 := by have := HO.out.small m; omega
            have ca := scells_at HW.out.all hlt
            have fa := froz_of_blk HW.out.all m
            clear h0
            generalize S.f m = b at *
            go_wp2_with fail
            refine HRd.out.mono ?_
            rintro e w5 ⟨rfl, rfl⟩
            go_wp2_with fail
            refine HLt.out.mono ?_
            rintro e w5 ⟨rfl, H5⟩
            have cf := fcells_at H5.out.saf hlt
            have ff := froz_of_blk H5.out.saf m
            have H6 : Hid (W2 p p za zf S (m + 1) (m + 1) w0 (w5.setCell ⟨zf, m, none⟩ (.int .i64 (S.s m)))) := H5.out.setF hlt
            clear HRd HLt ca fa HW H5 hy
            go_wp2_with fail
            exact ⟨⟨m + 1, by omega, by go_num, H6⟩, by simp [intOf]; omega⟩
          · obtain rfl : m = 4 := by omega
            clear hlt
            have hzp : z < p := by rw [← HP.out]; exact lt_of_blk HK0.out
            have hzp1 : z + 1 < p := by rw [← HP.out]; exact lt_of_blk HG0.out
            have hkb : wr.heap[z]? = some (.cells (kcells K) 31 (0, 0)) := (HW.out.bel.block z hzp).trans HK0.out
            have ek : ∀ j, wr.cell? ⟨z, j, none⟩ = (kcells K)[j]? := fun j => cell_of_row wr _ j _ 31 (0, 0) hkb
            have k0 : wr.cell? ⟨z, 0, none⟩ = some (.int .i64 (K 0)) := ek 0
            have k1 : wr.cell? ⟨z, 1, none⟩ = some (.int .i64 (K 1)) := ek 1
            have k2 : wr.cell? ⟨z, 2, none⟩ = some (.int .i64 (K 2)) := ek 2
            have k3 : wr.cell? ⟨z, 3, none⟩ = some (.int .i64 (K 3)) := ek 3
            have HCr : Hid (Calls Try.prog 15 #[.pointer (some ⟨p, 0, none⟩), .agg (kcells K)] wr fun e w' => e = .returned (.tuple #[]) ∧ Hid (W3 p p za zf w'.heap.size S (crs S K) 0 w0 (w'.alloc (.cells (scells (crs S K).f 0) 39)))) := by
              obtain ⟨V, hd⟩ := HW.out.dk
              refine (xcrash p p S V wr hd HO.out K HK.out).mono ?_
              rintro e w' ⟨rfl, V', hc⟩
              exact ⟨rfl, HW.out.crash hc⟩
            have HF : Hid (∀ j, S.s j ≤ ((crs S K).f j).size ∧ ((crs S K).f j).size ≤ (S.f j).size ∧ (crs S K).f j = (S.f j).extract 0 ((crs S K).f j).size ∧ (crs S K).s j = ((crs S K).f j).size) := fun j => crs_f HO.out K j
            have HAg : Hid (∀ j, (crs (crs S K) G).f j = (crs S K).f j) := fun j => crs_again HO.out K G j
            have HOT : Hid (Ok (crs S K)) := crs_ok HO.out K
            have HGT : Hid ((crs S K).gone = false) := rfl
            have HOU : Hid (Ok (crs (crs S K) G)) := crs_ok HOT.out G
            have HGU : Hid ((crs (crs S K) G).gone = false) := rfl
            clear ek hkb HW HGo
            go_wp2_with fail
            refine HCr.out.mono ?_
            rintro e w5 ⟨rfl, H5⟩
            clear k0 k1 k2 k3 HCr
            go_upto_region 22 with fail
            show Code.wp _ _ _ _ (w5.alloc (.cells (scells (crs S K).f 0) 39))
            generalize w5.alloc (.cells (scells (crs S K).f 0) 39) = w6 at *
            generalize w5.heap.size = zl at *
            generalize hU : crs (crs S K) G = U at *
            generalize hT : crs S K = T at *
            have HU : Hid (crs T G = U) := by rw [← hU, ← hT]; rfl
            clear hU hT
            go_loopw [19] (fun i wr => ∃ m : Nat, m ≤ 4 ∧ i = .int .i64 m ∧ Hid (W3 p p za zf zl S T m w0 wr)) (fun i _ => 4 - (intOf i).toNat)
            case atStart => exact ⟨0, by omega, rfl, H5.out⟩
            case round =>
              clear H5
              obtain ⟨m, hm, rfl, HW⟩ := hrel
              by_cases hlt : m < 4
              · have hm4 : (m : Int) < 4 := by omega
                have h0 : chk T m = 0 := chk_free HGT.out hlt
                have HRd : Hid (Calls Try.prog 13 #[.pointer (some ⟨p, 0, none⟩), .int .i64 m] wr fun e w' => e = .returned (.tuple #[.string (T.f m), .int .i64 0]) ∧ wr = w') := by
                  obtain ⟨V, hd⟩ := HW.out.dk
                  have := xread p p T V wr hd m
                  rw [rd_ok h0, h0] at this
                  exact this
                have H7 : Hid (W3 p p za zf zl S T (m + 1) w0 (wr.setCell ⟨zl, m, none⟩ (.string (T.f m)))) := HW.out.setL hlt
                have HLt : Hid (Calls Try.prog 14 #[.pointer (some ⟨p, 0, none⟩), .int .i64 m] (wr.setCell ⟨zl, m, none⟩ (.string (T.f m))) fun e w' => e = .returned (.int .i64 0) ∧ Hid (W3 p p za zf zl S T (m + 1) w0 w')) := by
                  obtain ⟨V, hd⟩ := H7.out.dk
                  have := xlateD p p T V _ hd HOT.out m
                  rw [lt_ok h0 HOT.out, (HF.out m).2.2.2] at this
                  refine this.mono ?_
                  rintro e w' ⟨rfl, n', rfl⟩
                  exact ⟨by rw [Int.sub_self], H7.out.drewN n'⟩
                obtain ⟨f1, f2, f3, f4⟩ := HF.out m
                have g1 : ¬ ((T.f m).size : Int) < S.s m := by omega
                have g2 : ¬ ((S.f m).size : Int) < (T.f m).size := by omega
                have g3 : (S.f m).extract 0 (T.f m).size = T.f m := f3.symm
                have ca := scells_at HW.out.lef hlt
                have fa := froz_of_blk HW.out.lef m
                have b1 := scells_at H7.out.all hlt
                have b2 := fcells_at H7.out.saf hlt
                rw [upt_four _ hlt] at b1
                rw [upn_four _ hlt] at b2
                have HB : Hid (((wr.setCell ⟨zl, m, none⟩ (.string (T.f m))).cell? ⟨za, m, none⟩ = some (.string (S.f m))) ∧ ((wr.setCell ⟨zl, m, none⟩ (.string (T.f m))).cell? ⟨zf, m, none⟩ = some (.int .i64 (S.s m)))) := ⟨b1, b2⟩
                clear f1 f2 f3 f4 h0 b1 b2
                generalize T.f m = c at *
                generalize S.f m = b at *
                generalize S.s m = sm at *
                go_wp2_with fail
                refine HRd.out.mono ?_
                rintro e w7 ⟨rfl, rfl⟩
                clear HRd
                go_upto_region 26 with fail
                obtain ⟨b1, b2⟩ := HB.out
                clear HB H7 HW ca fa
                generalize wr.setCell ⟨zl, m, none⟩ (.string c) = w7 at *
                go_wp2_with fail
                refine HLt.out.mono ?_
                rintro e w8 ⟨rfl, H8⟩
                go_wp2_with fail
                exact ⟨⟨m + 1, by omega, by go_num, H8⟩, by simp [intOf]; omega⟩
              · obtain rfl : m = 4 := by omega
                clear hlt
                have hkb : wr.heap[z + 1]? = some (.cells (kcells G) 31 (0, 0)) := (HW.out.bel.block (z + 1) hzp1).trans HG0.out
                have ek : ∀ j, wr.cell? ⟨z + 1, j, none⟩ = (kcells G)[j]? := fun j => cell_of_row wr _ j _ 31 (0, 0) hkb
                have k0 : wr.cell? ⟨z + 1, 0, none⟩ = some (.int .i64 (G 0)) := ek 0
                have k1 : wr.cell? ⟨z + 1, 1, none⟩ = some (.int .i64 (G 1)) := ek 1
                have k2 : wr.cell? ⟨z + 1, 2, none⟩ = some (.int .i64 (G 2)) := ek 2
                have k3 : wr.cell? ⟨z + 1, 3, none⟩ = some (.int .i64 (G 3)) := ek 3
                have HCr : Hid (Calls Try.prog 15 #[.pointer (some ⟨p, 0, none⟩), .agg (kcells G)] wr fun e w' => e = .returned (.tuple #[]) ∧ Hid (W4 p p zl T U w0 w')) := by
                  obtain ⟨V, hd⟩ := HW.out.dk
                  refine (xcrash p p T V wr hd HOT.out G HG.out).mono ?_
                  rintro e w' ⟨rfl, V', hc⟩
                  rw [HU.out] at hc
                  exact ⟨rfl, HW.out.crash hc⟩
                clear ek hkb HW HF
                go_wp2_with fail
                refine HCr.out.mono ?_
                rintro e w8 ⟨rfl, H8⟩
                clear k0 k1 k2 k3 HCr
                go_upto_region 30 with fail
                go_loopw [22] (fun i wr => ∃ m : Nat, m ≤ 4 ∧ i = .int .i64 m ∧ Hid (W4 p p zl T U w0 wr)) (fun i _ => 4 - (intOf i).toNat)
                case atStart => exact ⟨0, by omega, rfl, H8.out⟩
                case round =>
                  clear H8
                  obtain ⟨m, hm, rfl, HW⟩ := hrel
                  by_cases hlt : m < 4
                  · have hm4 : (m : Int) < 4 := by omega
                    have h0 : chk U m = 0 := chk_free HGU.out hlt
                    have HRd : Hid (Calls Try.prog 13 #[.pointer (some ⟨p, 0, none⟩), .int .i64 m] wr fun e w' => e = .returned (.tuple #[.string (T.f m), .int .i64 0]) ∧ wr = w') := by
                      obtain ⟨V, hd⟩ := HW.out.dk
                      have := xread p p U V wr hd m
                      rw [rd_ok h0, h0, HAg.out m] at this
                      exact this
                    have ca := scells_at HW.out.lef hlt
                    rw [upt_four _ hlt] at ca
                    clear h0
                    generalize T.f m = c at *
                    go_wp2_with fail
                    refine HRd.out.mono ?_
                    rintro e w9 ⟨rfl, rfl⟩
                    go_wp2_with fail
                    exact ⟨⟨m + 1, by omega, by go_num, HW⟩, by simp [intOf]; omega⟩
                  · obtain rfl : m = 4 := by omega
                    clear hlt
                    have HFin : Hid (Calls Try.prog 12 #[] wr fun e w' => e = .returned (.bool true) ∧ Hid (Below w.heap.size w w')) := by
                      refine (xawake wr).mono ?_
                      rintro e w' ⟨rfl, hb⟩
                      refine ⟨rfl, ?_⟩
                      have hz : w.heap.size ≤ w0.heap.size := by have := B0.out.size; exact this
                      have q1 : Below w.heap.size w0 wr := HW.out.bel.mono (by rw [← HP.out]; exact hz)
                      have q2 : Below w.heap.size w wr := by have q := B0.out; rw [← HZ.out] at q; exact q.trans q1
                      exact q2.trans (hb.mono q2.size)
                    go_wp2_with fail
                    refine HFin.out.mono ?_
                    rintro e w9 ⟨rfl, hb⟩
                    go_wp2_with fail
                    go_ret
                    exact ⟨rfl, hb.out⟩
      · go_upto_region 14 with fail
        show Code.wp _ _ _ _ ((wr.alloc (.cells (scells S.f 0) 39)).alloc (.cells (fcells S.s 0) 31))
        generalize (wr.alloc (.cells (scells S.f 0) 39)).alloc (.cells (fcells S.s 0) 31) = w4 at *
        generalize wr.heap.size = za at *
        generalize hzf : za + 1 = zf at *
        clear hzf
        go_loopw [15] (fun i wr => ∃ m : Nat, m ≤ 4 ∧ i = .int .i64 m ∧ Hid (W2 p p za zf S m m w0 wr)) (fun i _ => 4 - (intOf i).toNat)
        case atStart => exact ⟨0, by omega, rfl, H2.out⟩
        case round =>
          clear H2
          obtain ⟨m, hm, rfl, HW⟩ := hrel
          by_cases hlt : m < 4
          · have hm4 : (m : Int) < 4 := by omega
            have h0 : chk S m = 0 := chk_free HGo.out hlt
            have HRd : Hid (Calls Try.prog 13 #[.pointer (some ⟨p, 0, none⟩), .int .i64 m] wr fun e w' => e = .returned (.tuple #[.string (S.f m), .int .i64 0]) ∧ wr = w') := by
              obtain ⟨V, hd⟩ := HW.out.dk
              have := xread p p S V wr hd m
              rw [rd_ok h0, h0] at this
              exact this
            obtain ⟨y, hy⟩ : ∃ y : Int, ((S.f m).size : Int) - S.s m = y := ⟨_, rfl⟩
            have HLt : Hid (Calls Try.prog 14 #[.pointer (some ⟨p, 0, none⟩), .int .i64 m] (wr.setCell ⟨za, m, none⟩ (.string (S.f m))) fun e w' => e = .returned (.int .i64 y) ∧ Hid (W2 p p za zf S (m + 1) m w0 w')) := by
              have h5 := HW.out.setA hlt
              obtain ⟨V, hd⟩ := h5.dk
              have := xlateD p p S V _ hd HO.out m
              rw [lt_ok h0 HO.out, hy] at this
              refine this.mono ?_
              rintro e w' ⟨rfl, n', rfl⟩
              exact ⟨rfl, h5.drewN n'⟩
            have hy1 : ((S.f m).size : Int) - y = S.s m := by omega
            have hs1 : (S.s m : Int) ≤ (S.f m).size := by have := HO.out.safe m; omega
            have hs2 : ((S.f m).size : Int) ≤ 1048576 := by have := HO.out.small m; omega
            have ca := scells_at HW.out.all hlt
            have fa := froz_of_blk HW.out.all m
            clear h0
            generalize S.f m = b at *
            go_wp2_with fail
            refine HRd.out.mono ?_
            rintro e w5 ⟨rfl, rfl⟩
            go_wp2_with fail
            refine HLt.out.mono ?_
            rintro e w5 ⟨rfl, H5⟩
            have cf := fcells_at H5.out.saf hlt
            have ff := froz_of_blk H5.out.saf m
            have H6 : Hid (W2 p p za zf S (m + 1) (m + 1) w0 (w5.setCell ⟨zf, m, none⟩ (.int .i64 (S.s m)))) := H5.out.setF hlt
            clear HRd HLt ca fa HW H5 hy
            go_wp2_with fail
            exact ⟨⟨m + 1, by omega, by go_num, H6⟩, by simp [intOf]; omega⟩
          · obtain rfl : m = 4 := by omega
            clear hlt
            have hzp : z < p := by rw [← HP.out]; exact lt_of_blk HK0.out
            have hzp1 : z + 1 < p := by rw [← HP.out]; exact lt_of_blk HG0.out
            have hkb : wr.heap[z]? = some (.cells (kcells K) 31 (0, 0)) := (HW.out.bel.block z hzp).trans HK0.out
            have ek : ∀ j, wr.cell? ⟨z, j, none⟩ = (kcells K)[j]? := fun j => cell_of_row wr _ j _ 31 (0, 0) hkb
            have k0 : wr.cell? ⟨z, 0, none⟩ = some (.int .i64 (K 0)) := ek 0
            have k1 : wr.cell? ⟨z, 1, none⟩ = some (.int .i64 (K 1)) := ek 1
            have k2 : wr.cell? ⟨z, 2, none⟩ = some (.int .i64 (K 2)) := ek 2
            have k3 : wr.cell? ⟨z, 3, none⟩ = some (.int .i64 (K 3)) := ek 3
            have HCr : Hid (Calls Try.prog 15 #[.pointer (some ⟨p, 0, none⟩), .agg (kcells K)] wr fun e w' => e = .returned (.tuple #[]) ∧ Hid (W3 p p za zf w'.heap.size S (crs S K) 0 w0 (w'.alloc (.cells (scells (crs S K).f 0) 39)))) := by
              obtain ⟨V, hd⟩ := HW.out.dk
              refine (xcrash p p S V wr hd HO.out K HK.out).mono ?_
              rintro e w' ⟨rfl, V', hc⟩
              exact ⟨rfl, HW.out.crash hc⟩
            have HF : Hid (∀ j, S.s j ≤ ((crs S K).f j).size ∧ ((crs S K).f j).size ≤ (S.f j).size ∧ (crs S K).f j = (S.f j).extract 0 ((crs S K).f j).size ∧ (crs S K).s j = ((crs S K).f j).size) := fun j => crs_f HO.out K j
            have HAg : Hid (∀ j, (crs (crs S K) G).f j = (crs S K).f j) := fun j => crs_again HO.out K G j
            have HOT : Hid (Ok (crs S K)) := crs_ok HO.out K
            have HGT : Hid ((crs S K).gone = false) := rfl
            have HOU : Hid (Ok (crs (crs S K) G)) := crs_ok HOT.out G
            have HGU : Hid ((crs (crs S K) G).gone = false) := rfl
            clear ek hkb HW HGo
            go_wp2_with fail
            refine HCr.out.mono ?_
            rintro e w5 ⟨rfl, H5⟩
            clear k0 k1 k2 k3 HCr
            go_upto_region 22 with fail
            show Code.wp _ _ _ _ (w5.alloc (.cells (scells (crs S K).f 0) 39))
            generalize w5.alloc (.cells (scells (crs S K).f 0) 39) = w6 at *
            generalize w5.heap.size = zl at *
            generalize hU : crs (crs S K) G = U at *
            generalize hT : crs S K = T at *
            have HU : Hid (crs T G = U) := by rw [← hU, ← hT]; rfl
            clear hU hT
            go_loopw [19] (fun i wr => ∃ m : Nat, m ≤ 4 ∧ i = .int .i64 m ∧ Hid (W3 p p za zf zl S T m w0 wr)) (fun i _ => 4 - (intOf i).toNat)
            case atStart => exact ⟨0, by omega, rfl, H5.out⟩
            case round =>
              clear H5
              obtain ⟨m, hm, rfl, HW⟩ := hrel
              by_cases hlt : m < 4
              · have hm4 : (m : Int) < 4 := by omega
                have h0 : chk T m = 0 := chk_free HGT.out hlt
                have HRd : Hid (Calls Try.prog 13 #[.pointer (some ⟨p, 0, none⟩), .int .i64 m] wr fun e w' => e = .returned (.tuple #[.string (T.f m), .int .i64 0]) ∧ wr = w') := by
                  obtain ⟨V, hd⟩ := HW.out.dk
                  have := xread p p T V wr hd m
                  rw [rd_ok h0, h0] at this
                  exact this
                have H7 : Hid (W3 p p za zf zl S T (m + 1) w0 (wr.setCell ⟨zl, m, none⟩ (.string (T.f m)))) := HW.out.setL hlt
                have HLt : Hid (Calls Try.prog 14 #[.pointer (some ⟨p, 0, none⟩), .int .i64 m] (wr.setCell ⟨zl, m, none⟩ (.string (T.f m))) fun e w' => e = .returned (.int .i64 0) ∧ Hid (W3 p p za zf zl S T (m + 1) w0 w')) := by
                  obtain ⟨V, hd⟩ := H7.out.dk
                  have := xlateD p p T V _ hd HOT.out m
                  rw [lt_ok h0 HOT.out, (HF.out m).2.2.2] at this
                  refine this.mono ?_
                  rintro e w' ⟨rfl, n', rfl⟩
                  exact ⟨by rw [Int.sub_self], H7.out.drewN n'⟩
                obtain ⟨f1, f2, f3, f4⟩ := HF.out m
                have g1 : ¬ ((T.f m).size : Int) < S.s m := by omega
                have g2 : ¬ ((S.f m).size : Int) < (T.f m).size := by omega
                have g3 : (S.f m).extract 0 (T.f m).size = T.f m := f3.symm
                have ca := scells_at HW.out.lef hlt
                have fa := froz_of_blk HW.out.lef m
                have b1 := scells_at H7.out.all hlt
                have b2 := fcells_at H7.out.saf hlt
                rw [upt_four _ hlt] at b1
                rw [upn_four _ hlt] at b2
                have HB : Hid (((wr.setCell ⟨zl, m, none⟩ (.string (T.f m))).cell? ⟨za, m, none⟩ = some (.string (S.f m))) ∧ ((wr.setCell ⟨zl, m, none⟩ (.string (T.f m))).cell? ⟨zf, m, none⟩ = some (.int .i64 (S.s m)))) := ⟨b1, b2⟩
                clear f1 f2 f3 f4 h0 b1 b2
                generalize T.f m = c at *
                generalize S.f m = b at *
                generalize S.s m = sm at *
                go_wp2_with fail
                refine HRd.out.mono ?_
                rintro e w7 ⟨rfl, rfl⟩
                clear HRd
                go_upto_region 26 with fail
                obtain ⟨b1, b2⟩ := HB.out
                clear HB H7 HW ca fa
                generalize wr.setCell ⟨zl, m, none⟩ (.string c) = w7 at *
                go_wp2_with fail
                refine HLt.out.mono ?_
                rintro e w8 ⟨rfl, H8⟩
                go_wp2_with fail
                exact ⟨⟨m + 1, by omega, by go_num, H8⟩, by simp [intOf]; omega⟩
              · obtain rfl : m = 4 := by omega
                clear hlt
                have hkb : wr.heap[z + 1]? = some (.cells (kcells G) 31 (0, 0)) := (HW.out.bel.block (z + 1) hzp1).trans HG0.out
                have ek : ∀ j, wr.cell? ⟨z + 1, j, none⟩ = (kcells G)[j]? := fun j => cell_of_row wr _ j _ 31 (0, 0) hkb
                have k0 : wr.cell? ⟨z + 1, 0, none⟩ = some (.int .i64 (G 0)) := ek 0
                have k1 : wr.cell? ⟨z + 1, 1, none⟩ = some (.int .i64 (G 1)) := ek 1
                have k2 : wr.cell? ⟨z + 1, 2, none⟩ = some (.int .i64 (G 2)) := ek 2
                have k3 : wr.cell? ⟨z + 1, 3, none⟩ = some (.int .i64 (G 3)) := ek 3
                have HCr : Hid (Calls Try.prog 15 #[.pointer (some ⟨p, 0, none⟩), .agg (kcells G)] wr fun e w' => e = .returned (.tuple #[]) ∧ Hid (W4 p p zl T U w0 w')) := by
                  obtain ⟨V, hd⟩ := HW.out.dk
                  refine (xcrash p p T V wr hd HOT.out G HG.out).mono ?_
                  rintro e w' ⟨rfl, V', hc⟩
                  rw [HU.out] at hc
                  exact ⟨rfl, HW.out.crash hc⟩
                clear ek hkb HW HF
                go_wp2_with fail
                refine HCr.out.mono ?_
                rintro e w8 ⟨rfl, H8⟩
                clear k0 k1 k2 k3 HCr
                go_upto_region 30 with fail
                go_loopw [22] (fun i wr => ∃ m : Nat, m ≤ 4 ∧ i = .int .i64 m ∧ Hid (W4 p p zl T U w0 wr)) (fun i _ => 4 - (intOf i).toNat)
                case atStart => exact ⟨0, by omega, rfl, H8.out⟩
                case round =>
                  clear H8
                  obtain ⟨m, hm, rfl, HW⟩ := hrel
                  by_cases hlt : m < 4
                  · have hm4 : (m : Int) < 4 := by omega
                    have h0 : chk U m = 0 := chk_free HGU.out hlt
                    have HRd : Hid (Calls Try.prog 13 #[.pointer (some ⟨p, 0, none⟩), .int .i64 m] wr fun e w' => e = .returned (.tuple #[.string (T.f m), .int .i64 0]) ∧ wr = w') := by
                      obtain ⟨V, hd⟩ := HW.out.dk
                      have := xread p p U V wr hd m
                      rw [rd_ok h0, h0, HAg.out m] at this
                      exact this
                    have ca := scells_at HW.out.lef hlt
                    rw [upt_four _ hlt] at ca
                    clear h0
                    generalize T.f m = c at *
                    go_wp2_with fail
                    refine HRd.out.mono ?_
                    rintro e w9 ⟨rfl, rfl⟩
                    go_wp2_with fail
                    exact ⟨⟨m + 1, by omega, by go_num, HW⟩, by simp [intOf]; omega⟩
                  · obtain rfl : m = 4 := by omega
                    clear hlt
                    have HFin : Hid (Calls Try.prog 12 #[] wr fun e w' => e = .returned (.bool true) ∧ Hid (Below w.heap.size w w')) := by
                      refine (xawake wr).mono ?_
                      rintro e w' ⟨rfl, hb⟩
                      refine ⟨rfl, ?_⟩
                      have hz : w.heap.size ≤ w0.heap.size := by have := B0.out.size; exact this
                      have q1 : Below w.heap.size w0 wr := HW.out.bel.mono (by rw [← HP.out]; exact hz)
                      have q2 : Below w.heap.size w wr := by have q := B0.out; rw [← HZ.out] at q; exact q.trans q1
                      exact q2.trans (hb.mono q2.size)
                    go_wp2_with fail
                    refine HFin.out.mono ?_
                    rintro e w9 ⟨rfl, hb⟩
                    go_wp2_with fail
                    go_ret
                    exact ⟨rfl, hb.out⟩
end Go.Proofs.Ytfdebooimbbdbaa
