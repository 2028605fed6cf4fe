/- layer 16: Greatest of the document -/
import Derived.Test.YtdfadcbchiogjaaGreatPD
import Derived.Test.YtdfadcbchiogjaaGreatPE
import Derived.WalkKit
import Derived.ProofKit
import Derived.Handy
import Derived.WalkLawsBesides
import Derived.WalkSpells
import Derived.BigQuiet
import Derived.BigCall
import Derived.Deep.QuietTactic
import Derived.Deep.Light
import Derived.Deep.OwnRows
import Derived.Laws.AppendOwnNone
import Derived.Laws.Strings3
import Derived.Laws.RangeAny
import Derived.Deep.RegionWith
import Derived.Lib.BitFns
import Derived.Lib.Walk
import Derived.Lib.Strings
import Derived.Lib.OthersKept
import Derived.Deep.CutBlock
import Derived.Deep.DeepCutAuto
import Derived.Deep.LoopGhost
import Derived.Deep.RegionHeld3
import Derived.Lib.SmallJoins
import Derived.Maps.AppendAt
import Derived.Laws.IdiomStrings
import Derived.Lib.AppendZeros
import Derived.Deep.WholeRow
import Derived.Laws.BitsAllLaws
import Derived.Lib.ConvBytes
import Derived.Deep.RegionLaw
import Derived.Maps.OwnSet
import Derived.Maps.OwnOps
import Derived.Maps.RangeWalk
import Derived.Maps.Ext
import Derived.DeepKeys4
import Derived.Laws.StructEq
import Derived.Deep.MidRow
import Derived.Lib.Bytealg
import Derived.Lib.AppendZerosOnto
import Derived.Laws.MakeOwn
import Derived.Deep.Upon
import Derived.Sort.KeysCollected
import Derived.Shelf.AbstractIn
import Derived.RangeFuncSeq
import Derived.RangeFuncGives
import Derived.Sort.MapsRangeIn
import Derived.OwnWalkIn
import Derived.TacticsInMore
import Derived.RegionIn
import Derived.LoopNIn
import Derived.LoopIn
import Derived.Lib.SlKeysI
namespace Go.Proofs.YtdfadcbchiogjaaGreat
open Go.RowKit
set_option linter.unusedVariables false
set_option linter.unusedSimpArgs false
set_option maxRecDepth 20000
theorem stB_cond (f : Int → Int) (b n : Int) : stB f b n = if (decide (f b < f n) || (f n == f b && decide (n < b))) = true then n else b := by
  unfold stB
  congr 1
  simp [beq_iff_eq]
/-- the best of those looked at, beginning with the first -/
def bst (f : Int → Int) (b : Int) : List Int → Int
  | [] => b
  | n :: S => bst f (stB f b n) S
theorem bst_snoc (f : Int → Int) : ∀ (S : List Int) (b n : Int), bst f b (S ++ [n]) = stB f (bst f b S) n
  | [], _, _ => rfl
  | x :: S, b, n => bst_snoc f S (stB f b x) n
theorem bst_is (f : Int → Int) : ∀ (S T : List Int) (b : Int), isB f T b → isB f (T ++ S) (bst f b S)
  | [], T, b, h => by rw [List.append_nil]; exact h
  | n :: S, T, b, h => by
    have := bst_is f S (T ++ [n]) _ (isB_snoc h n)
    rw [List.append_assoc] at this
    exact this
theorem bst_first (f : Int → Int) (n : Int) (S : List Int) : isB f (n :: S) (bst f n (n :: S)) := by
  have h := bst_is f (n :: S) [n] n (isB_one f n)
  exact isB_same h (fun m => by simp)
theorem bst_mem (f : Int → Int) : ∀ (S : List Int) (b : Int), bst f b S = b ∨ bst f b S ∈ S
  | [], _ => .inl rfl
  | n :: S, b => by
    rcases bst_mem f S (stB f b n) with h | h
    · have e : bst f b (n :: S) = stB f b n := h
      rw [e]
      unfold stB
      split
      · exact .inr List.mem_cons_self
      · exact .inl rfl
    · exact .inr (List.mem_cons_of_mem _ h)
def niss (xs : List H5.It) : List Int := xs.map (fun x => x.a.iss)
theorem niss_cov (xs : List H5.It) : (cov xs).map (·.i) = niss xs := by unfold cov niss; rw [List.map_map]; rfl
theorem niss_cons {xs : List H5.It} (h : 0 < xs.length) : niss xs = xs[0].a.iss :: niss (xs.drop 1) := by
  cases xs with
  | nil => simp at h
  | cons x ys => rfl
theorem niss_take {xs : List H5.It} {k : Nat} (h : k < xs.length) : niss (xs.take (k + 1)) = niss (xs.take k) ++ [xs[k].a.iss] := by
  unfold niss
  rw [List.take_succ_eq_append_getElem h, List.map_append]
  rfl
/-- one call of OfIssuer -/
theorem rofi {wr W : World} {v : Value} {L : List Pt} (h : Lo wr v L) (hb : Below wr.heap.size wr W) (n : Int) (hI : ∀ j, Rng (smI (L.take j) n)) (hl : L.length ≤ 1000000) (a1 a2 a3 : Int) :
    Calls Tryz.prog 30 #[.agg #[.int .i64 a1, .int .i64 a2, .int .i64 a3, v], .int .i64 n] W fun e w6 => ∃ y, e = .returned y ∧ (y = .int .i64 (smI L n) ∧ Hid (Below wr.heap.size wr w6)) :=
  (rissuer (h.below hb) a1 a2 a3 n hI hl).mono fun e w6 hh => ⟨_, hh.1, rfl, hb.trans (hh.2.mono hb.size)⟩
def gT (xs : List H5.It) (k : Nat) : Tb := ⟨0, 0, 0, cov (xs.take k)⟩
theorem gT_more {xs : List H5.It} {k : Nat} (h : k < xs.length) : (gT xs k).more xs[k].a.iss xs[k].a.i.data.toList xs[k].co = gT xs (k + 1) := by
  unfold gT Tb.more
  rw [cov_take h]
  rfl
set_option maxHeartbeats 32000000 in
theorem rgreatest (xs : List H5.It) (hx : ∀ y ∈ xs, WI y) (a : Option Addr) (cap : Nat) (w : World) (hp : Rw 9 H5.its w a xs) (hl : xs.length ≤ 1000) :
    ((H5.itot 0 xs).2 ≠ 0 → Calls Tryz.prog 9 #[.slice a xs.length cap] w (GrP 0 0 (H5.itot 0 xs).2 w)) ∧
    ((H5.itot 0 xs).2 = 0 → sm (cov xs) = 0 → Calls Tryz.prog 9 #[.slice a xs.length cap] w (GrP 0 0 6 w)) ∧
    ((H5.itot 0 xs).2 = 0 → 0 < sm (cov xs) → ∀ b, isB (smI (cov xs)) ((cov xs).map (·.i)) b → Calls Tryz.prog 9 #[.slice a xs.length cap] w (GrP b (smI (cov xs) b * 1000000 / sm (cov xs)) 0 w)) := by
  have hlz : (xs.length : Int) ≤ 1000 := by omega
  have HT : Hid (Calls Tryz.prog 29 #[.slice a xs.length cap] w (H5.WoP (H5.itot 0 xs).1 (H5.itot 0 xs).2 w)) := H5.ritotal xs (by omega) (fun x h => (hx x h).c) a cap w hp
  refine ⟨fun hE => ?_, fun hE hS => ?_, fun hE hS b hb => ?_⟩
  · have hEz : ((H5.itot 0 xs).2 != 0) = true := by simp [hE]
    generalize (H5.itot 0 xs).1 = T at *
    generalize (H5.itot 0 xs).2 = E at *
    clear hE hp hx
    go_enter Tryz.func9, Tryz.ntmps9
    go_wp2_with (go_at_call 29; refine HT.out.mono ?_; clear HT; rintro e w2 ⟨rfl, HB2⟩; replace HB2 := hid_in HB2)
    go_ret3
    exact ⟨rfl, HB2⟩
  · have h1 := itot_sm xs 0 hE
    rw [hE, h1, hS] at HT
    clear hE hp hx h1 hS
    go_enter Tryz.func9, Tryz.ntmps9
    go_wp2_with (go_at_call 29; refine HT.out.mono ?_; clear HT; rintro e w2 ⟨rfl, HB2⟩; replace HB2 := hid_in HB2)
    go_ret3
    exact ⟨rfl, HB2⟩
  · have h1 := itot_sm xs 0 hE
    have hrg := (H5.itot_rng (xs := xs) (s := 0) (by constructor <;> omega)).1
    rw [hE, h1, Int.zero_add] at HT
    rw [h1, Int.zero_add] at hrg
    have HPt : Hid (∀ k n, 0 ≤ smI (cov (xs.take k)) n ∧ smI (cov (xs.take k)) n ≤ sm (cov xs)) := fun k n => cov_part xs k n
    have HP : Hid (Rw 9 H5.its w a xs) := hp
    have HX : Hid (∀ y ∈ xs, WI y) := hx
    have hrg1 : sm (cov xs) ≤ 9223372036854775807 := hrg.2
    have HBb : Hid (isB (smI (cov xs)) ((cov xs).map (·.i)) b) := hb
    have h0 : 0 < xs.length := by
      obtain ⟨p, hp, _⟩ := sm_pos hS
      rw [← cov_len]
      exact List.length_pos_of_mem hp
    obtain ⟨T, hT⟩ : ∃ T, T = sm (cov xs) := ⟨_, rfl⟩
    rw [← hT] at HT hS HPt hrg1 ⊢
    have hTz : (T == 0) = false := by simp; omega
    clear hE hp hx h1 hrg hT hb
    go_enter Tryz.func9, Tryz.ntmps9
    go_upto_region 7 with (go_at_call 29; refine HT.out.mono ?_; clear HT; rintro e w2 ⟨rfl, HB2⟩; replace HB2 := hid_in HB2)
    have HG0 : Hid (Rt w (w2.alloc (.cells #[.int .i64 0, .int .i64 0, .int .i64 0, .slice none 0 0] 65)) w2.heap.size (gT xs 0)) := rt_new w w2 HB2.out (gT xs 0) rfl
    clear HB2
    generalize w2.alloc (.cells #[.int .i64 0, .int .i64 0, .int .i64 0, .slice none 0 0] 65) = W2 at *
    generalize w2.heap.size = r at *
    go_wp2_with fail
    go_loopw [8] (fun i wr => ∃ k : Nat, k ≤ xs.length ∧ i = .int .i64 k ∧ Hid (Rt w wr r (gT xs k)))
      (fun i _ => xs.length - (intOf i).toNat)
    case atStart => exact ⟨0, Nat.zero_le _, rfl, HG0.out⟩
    case round =>
      obtain ⟨k, hk, rfl, HR⟩ := hrel
      clear HG0
      by_cases hkn : k < xs.length
      · have hkz : (k : Int) < (xs.length : Int) := by omega
        obtain ⟨blk, off, rfl, hbl, hcs⟩ := HP.out (by omega)
        have hc9 := its_at hcs HR.out.k hbl hkn
        have hblr : blk < wr.heap.size := Nat.lt_of_lt_of_le hbl HR.out.k.size
        have hwi := HX.out _ (List.getElem_mem hkn)
        have hmr := gT_more hkn
        have hTl : (gT xs k).L.length ≤ 100000 := by show (cov _).length ≤ _; rw [cov_len, List.length_take]; omega
        have hrt := HR.out
        have HV : Hid (∀ W, Below wr.heap.size wr W → Calls Tryz.prog 22 #[.agg (H5.its xs[k]).toArray] W fun e w' => ∃ y, e = .returned y ∧ (y = .int .i64 xs[k].co ∧ Hid (Below wr.heap.size wr w'))) := fun W hb =>
          (H5.ricov xs[k] hwi.c W).mono fun e w' hh => ⟨_, hh.1, rfl, hb.trans (hh.2.mono hb.size)⟩
        have hen : (gT xs k).need = 0 ∧ (gT xs k).li = 0 ∧ (gT xs k).la = 0 := ⟨rfl, rfl, rfl⟩
        generalize hTe : gT xs (k + 1) = T' at *
        have HTe : Hid (gT xs (k + 1) = T') := hTe
        clear hTe
        have hen' : T'.need = 0 ∧ T'.li = 0 ∧ T'.la = 0 := by rw [← HTe.out]; exact ⟨rfl, rfl, rfl⟩
        generalize gT xs k = Q at *
        generalize xs[k].co = C at *
        generalize xs[k] = y at *
        obtain ⟨yl, yq, ⟨ai, a1, a2, a3, ac⟩, yp, yc⟩ := y
        simp only [H5.its] at *
        obtain ⟨sa, sc, hb1, hb2⟩ := hrt.b
        have HA : Hid (∀ W, Below wr.heap.size wr W → (W.cell? ⟨r, 0, none⟩ = some (.int .i64 0) ∧ W.cell? ⟨r, 1, none⟩ = some (.int .i64 0) ∧ W.cell? ⟨r, 2, none⟩ = some (.int .i64 0) ∧ W.cell? ⟨r, 3, none⟩ = some (.slice sa Q.L.length sc)) ∧
            (W.cell? ⟨blk, off + k * 9, none⟩ = some (.string yl) ∧ W.cell? ⟨blk, off + k * 9 + 1, none⟩ = some (.int .i64 yq) ∧ W.cell? ⟨blk, off + k * 9 + 2, none⟩ = some (.string ai) ∧ W.cell? ⟨blk, off + k * 9 + 3, none⟩ = some (.int .i64 a1) ∧ W.cell? ⟨blk, off + k * 9 + 4, none⟩ = some (.int .i64 a2) ∧ W.cell? ⟨blk, off + k * 9 + 5, none⟩ = some (.int .i64 a3) ∧ W.cell? ⟨blk, off + k * 9 + 6, none⟩ = some (.string ac) ∧ W.cell? ⟨blk, off + k * 9 + 7, none⟩ = some (.int .i64 yp) ∧ W.cell? ⟨blk, off + k * 9 + 8, none⟩ = some (.int .i64 yc))) := fun W hb => by
          have hx := hb1.below hb hb1.lt
          unfold rtc at hx
          rw [hen.1, hen.2.1, hen.2.2] at hx
          have hcc (i : Nat) (h : i < 9) : W.cell? ⟨blk, off + k * 9 + i, none⟩ = _ := (hb.cell (p := ⟨blk, off + k * 9 + i, none⟩) hblr).trans (hc9 i h)
          exact ⟨⟨hx.cell 0, hx.cell 1, hx.cell 2, hx.cell 3⟩, hcc 0 (by omega), hcc 1 (by omega), hcc 2 (by omega), hcc 3 (by omega), hcc 4 (by omega), hcc 5 (by omega), hcc 6 (by omega), hcc 7 (by omega), hcc 8 (by omega)⟩
        have HW := hid_in (fun W hb => rstep (W := W) hrt.k hrt.l hb1 hb2 hTl ⟨ai, a1, a2, a3, ac⟩ C hb (T' := T') hmr)
        simp only [acs] at HW
        rw [hen.1, hen.2.1, hen.2.2, hen'.1, hen'.2.1, hen'.2.2] at HW
        obtain ⟨⟨e0, e1, e2, e3⟩, c0, c1, c2, c3, c4, c5, c6, c7, c8⟩ := HA.out wr (Below.refl _ _)
        have HC3 := hid_in (HV.out wr.drew (below_drew1 wr))
        clear hc9 hcs HR HX HP hrt hb1 hb2 hTl hmr hwi hen hen' HV HPt HBb
        go_upto_region 10 with fail
        go_region_law (first
          | (refine step_call _ (by rfl) 22 #[.agg #[.string yl, .int .i64 yq, .string ai, .int .i64 a1, .int .i64 a2, .int .i64 a3, .string ac, .int .i64 yp, .int .i64 yc]] (by go_simp) _ HC3.out ?_; clear HC3; rintro v9 w6 ⟨rfl, HB6⟩; obtain ⟨⟨f0, f1, f2, f3⟩, d0, d1, d2, d3, d4, d5, d6, d7, d8⟩ := HA.out w6 HB6.out; have HW6 := hid_in (HW.out w6 HB6.out); clear HW)
          | (refine step_call _ (by rfl) 23 #[.agg #[.int .i64 0, .int .i64 0, .int .i64 0, .slice sa Q.L.length sc], .agg #[.string ai, .int .i64 a1, .int .i64 a2, .int .i64 a3, .string ac], .int .i64 C] (by go_simp) _ HW6.out ?_; clear HW6; rintro v8 w7 ⟨ya, yc2, rfl, ⟨k0, k1, k2, k3⟩, ⟨q0, q1, q2, q3⟩, HZ⟩))
        all_goals
          go_wp2_with fail
          go_roundw
          case rel => exact ⟨k + 1, by omega, by simp, (by rw [HTe.out]; exact HZ.out _ rfl)⟩
          case measure => simp [intOf]; omega
      · have hkz : ¬ (k : Int) < (xs.length : Int) := by omega
        have hr := HR.out
        rw [show k = xs.length by omega] at hr
        clear HR
        obtain ⟨sa, sc, hb1, hb2⟩ := hr.b
        have hgl : (gT xs xs.length).L = cov xs := by show cov _ = _; rw [List.take_length]
        rw [hgl] at hb1 hb2
        unfold rtc at hb1
        have HW4 : Hid (Below w.heap.size w wr) := hr.k
        obtain ⟨f, hf⟩ : ∃ f, f = smI (cov xs) := ⟨_, rfl⟩
        have hIj : ∀ n j, Rng (smI ((cov xs).take j) n) := fun n j => by rw [cov_tk]; have := HPt.out j n; unfold Rng; omega
        have HC : Hid (∀ n W, Below wr.heap.size wr W → Calls Tryz.prog 30 #[.agg #[.int .i64 0, .int .i64 0, .int .i64 0, .slice sa (cov xs).length sc], .int .i64 n] W fun e w6 => e = .returned (.int .i64 (f n)) ∧ Hid (Below wr.heap.size wr w6)) := fun n W hb => by
          rw [hf]
          exact (rissuer (hb2.below hb) 0 0 0 n (hIj n) (by rw [cov_len]; omega)).mono fun e w6 hh => ⟨hh.1, hb.trans (hh.2.mono hb.size)⟩
        have HSc0 : Hid (∀ W, Below wr.heap.size wr W → W.cell? ⟨r, 0, none⟩ = some (.int .i64 0) ∧ W.cell? ⟨r, 1, none⟩ = some (.int .i64 0) ∧ W.cell? ⟨r, 2, none⟩ = some (.int .i64 0) ∧ W.cell? ⟨r, 3, none⟩ = some (.slice sa (cov xs).length sc)) := fun W hb => by
          have hx := hb1.below hb hb1.lt
          exact ⟨hx.cell 0, hx.cell 1, hx.cell 2, hx.cell 3⟩
        obtain ⟨blk, off, rfl, hbl, hcs⟩ := HP.out h0
        have HI : Hid (∀ j (h : j < xs.length) W, Below w.heap.size w W → W.cell? ⟨blk, off + j * 9 + 3, none⟩ = some (.int .i64 xs[j].a.iss)) := fun j hj W hb => (hb.cell (p := ⟨blk, off + j * 9 + 3, none⟩) hbl).trans (hcs j hj 3 (by omega))
        obtain ⟨i0, hi0⟩ : ∃ i0, i0 = xs[0].a.iss := ⟨_, rfl⟩
        have c3 : wr.cell? ⟨blk, off + 3, none⟩ = some (.int .i64 i0) := by
          have := HI.out 0 h0 wr HW4.out
          rw [Nat.zero_mul, Nat.add_zero] at this
          rw [hi0]
          exact this
        have HBf : Hid (bst f i0 (niss xs) = b) := by
          have e : niss xs = i0 :: niss (xs.drop 1) := by rw [hi0]; exact niss_cons h0
          have h2 := bst_first f i0 (niss (xs.drop 1))
          rw [← e] at h2
          have h3 := HBb.out
          rw [niss_cov, ← hf] at h3
          exact isB_det h2 h3
        have HMd : Hid (∀ W, Calls Tryz.prog 31 #[.int .i64 (f b), .int .i64 1000000, .int .i64 T, .int .i64 1] W fun e w' => e = .returned (.tuple #[.int .i64 (f b * 1000000 / T), .int .i64 0]) ∧ Hid (Below W.heap.size W w')) := fun W => by
          have hfb := HPt.out xs.length b
          rw [List.take_length, ← hf] at hfb
          have hm := md_part hS hfb
          refine (N1.rmuldiv (f b) 1000000 T 1 (by omega) (by omega) (by omega) W).mono fun e w' k => ?_
          obtain ⟨k1, k2⟩ := k
          rw [hm.1, hm.2] at k1
          exact ⟨k1, k2⟩
        have HRE : Hid (∀ w', Below w.heap.size w w' → GrP b (smI (cov xs) b * 1000000 / T) 0 w (.returned (.tuple #[.int .i64 b, .int .i64 (f b * 1000000 / T), .int .i64 0])) w') := fun w' hb => by rw [hf]; exact ⟨rfl, hb⟩
        clear hr hb1 hb2 hgl hIj hcs HPt HBb HP HX hf hS hi0
        generalize (cov xs).length = n0 at *
        have h0z : (0 : Int) < (xs.length : Int) := by omega
        go_upto_region 12 with fail
        clear h0z c3
        obtain ⟨wq, hwq⟩ : ∃ wq, wq = wr := ⟨_, rfl⟩
        have H55 : Hid (Below wq.heap.size wq wr) := by rw [hwq]; exact Below.refl _ _
        rw [← hwq] at HC HSc0 HW4
        clear hwq
        go_wp2_with fail

        go_loopw [9, 10] (fun bv iv wx => ∃ k : Nat, k ≤ xs.length ∧ iv = .int .i64 k ∧ bv = .int .i64 (bst f i0 (niss (xs.take k))) ∧ Below wq.heap.size wq wx)
          (fun _ iv _ => xs.length - (intOf iv).toNat)
        case atStart => exact ⟨0, Nat.zero_le _, rfl, rfl, H55.out⟩
        case round =>
          obtain ⟨k, hk, rfl, rfl, hbw⟩ := hrel
          have HBW : Hid (Below wq.heap.size wq wr) := hbw
          have HWr : Hid (Below w.heap.size w wr) := HW4.out.trans (hbw.mono HW4.out.size)
          clear H55
          by_cases hkn : k < xs.length
          · have hkz : (k : Int) < (xs.length : Int) := by omega
            have c3 : wr.cell? ⟨blk, off + k * 9 + 3, none⟩ = some (.int .i64 xs[k].a.iss) := HI.out k hkn wr HWr.out
            have hst : bst f i0 (niss (xs.take (k + 1))) = stB f (bst f i0 (niss (xs.take k))) xs[k].a.iss := by rw [niss_take hkn, bst_snoc]
            generalize hnb : bst f i0 (niss (xs.take (k + 1))) = nb at *
            have HNQ : Hid (bst f i0 (niss (xs.take (k + 1))) = nb) := hnb
            clear hnb
            generalize bst f i0 (niss (xs.take k)) = b2 at *
            have HSt : Hid (nb = stB f b2 xs[k].a.iss) := hst
            clear hst
            generalize xs[k].a.iss = n at *
            have HN : Hid (∀ W, Below wq.heap.size wq W → Calls Tryz.prog 30 #[.agg #[.int .i64 0, .int .i64 0, .int .i64 0, .slice sa n0 sc], .int .i64 n] W fun e w6 => e = .returned (.int .i64 (f n)) ∧ Hid (Below wq.heap.size wq w6)) := HC.out n
            have HNb : Hid (∀ W, Below wq.heap.size wq W → Calls Tryz.prog 30 #[.agg #[.int .i64 0, .int .i64 0, .int .i64 0, .slice sa n0 sc], .int .i64 b2] W fun e w6 => e = .returned (.int .i64 (f b2)) ∧ Hid (Below wq.heap.size wq w6)) := HC.out b2
            by_cases hA : f b2 < f n
            · have HNB : Hid (nb = n) := by unfold Hid; rw [HSt.out, stB, if_pos (Or.inl hA)]
              clear HC HSt HMd HRE HI HBf
              generalize f n = fn at *
              generalize f b2 = fb at *
              go_upto_region 16 with fail
              refine wp_region_held (S := fun W => Below wq.heap.size wq W) (by kernel_rfl) ?_
              change wpAnyH _ _ _ _ _ 21 #[false, false, false, false, false, false, false, false, false, false, false, false, false, false, false, false, false, false, false, false, false] _ wr.drew
              have hS0 : Below wq.heap.size wq wr.drew := HBW.out.drew
              clear c3 HBW HWr
              generalize wr.drew = z0 at *
              refine takeR (fuel := 20) (i := 0) (v := .agg #[.int .i64 0, .int .i64 0, .int .i64 0, .slice sa n0 sc]) rfl (by kernel_rfl) (by kernel_rfl) (by kernel_rfl) (fun _ _ _ h => h) (Or.inl ⟨rfl, fun W hW => by obtain ⟨c0, c1, c2, c3⟩ := HSc0.out W hW; go_simp⟩) hS0 ?_
              simp only [Act.put, List.setIfInBounds_toArray, List.set_cons_zero, List.set_cons_succ]
              refine takeR (fuel := 19) (i := 1) (v := .int .i64 n) rfl (by kernel_rfl) (by kernel_rfl) (by kernel_rfl) (fun _ _ _ h => h) (Or.inl ⟨rfl, fun W hW => by go_simp⟩) hS0 ?_
              simp only [Act.put, List.setIfInBounds_toArray, List.set_cons_zero, List.set_cons_succ]
              refine takeR (fuel := 18) (i := 3) (v := .agg #[.int .i64 0, .int .i64 0, .int .i64 0, .slice sa n0 sc]) rfl (by kernel_rfl) (by kernel_rfl) (by kernel_rfl) (fun _ _ _ h => h) (Or.inl ⟨rfl, fun W hW => by obtain ⟨c0, c1, c2, c3⟩ := HSc0.out W hW; go_simp⟩) hS0 ?_
              simp only [Act.put, List.setIfInBounds_toArray, List.set_cons_zero, List.set_cons_succ]
              refine takeR (fuel := 17) (i := 4) (v := .int .i64 b2) rfl (by kernel_rfl) (by kernel_rfl) (by kernel_rfl) (fun _ _ _ h => h) (Or.inl ⟨rfl, fun W hW => by go_simp⟩) hS0 ?_
              simp only [Act.put, List.setIfInBounds_toArray, List.set_cons_zero, List.set_cons_succ]
              refine consR (fuel := 16) (i := 2) rfl (by kernel_rfl) (fun K hK => ?_)
              rw [if_pos (by rfl)]
              go_simp
              refine (HN.out _ hS0).mono ?_
              rintro e z1 ⟨rfl, HB1⟩
              refine hK.out _ _ HB1.out (fun hS1 => ?_)
              clear hK
              try simp only [Act.put, List.setIfInBounds_toArray, List.set_cons_zero, List.set_cons_succ]
              refine consR (fuel := 15) (i := 5) rfl (by kernel_rfl) (fun K hK => ?_)
              rw [if_pos (by rfl)]
              go_simp
              refine (HNb.out _ hS1).mono ?_
              rintro e z2 ⟨rfl, HB2⟩
              refine hK.out _ _ HB2.out (fun hS2 => ?_)
              clear hK
              try simp only [Act.put, List.setIfInBounds_toArray, List.set_cons_zero, List.set_cons_succ]
              refine takeR (fuel := 14) (i := 6) (v := .bool true) rfl (by kernel_rfl) (by kernel_rfl) (by kernel_rfl) (fun _ _ _ h => h) (Or.inl ⟨rfl, fun W hW => by go_simp⟩) hS2 ?_
              simp only [Act.put, List.setIfInBounds_toArray, List.set_cons_zero, List.set_cons_succ]
              refine takeR (fuel := 13) (i := 7) (v := .bool true) rfl (by kernel_rfl) (by kernel_rfl) (by kernel_rfl) (fun _ _ _ h => h) (Or.inl ⟨rfl, fun W hW => by go_simp⟩) hS2 ?_
              simp only [Act.put, List.setIfInBounds_toArray, List.set_cons_zero, List.set_cons_succ]
              refine takeR (fuel := 12) (i := 8) (v := undef) rfl (by kernel_rfl) (by kernel_rfl) (by kernel_rfl) (fun _ _ _ h => h) (Or.inr ⟨rfl, rfl⟩) hS2 ?_
              simp only [Act.put, List.setIfInBounds_toArray, List.set_cons_zero, List.set_cons_succ]
              refine takeR (fuel := 11) (i := 9) (v := undef) rfl (by kernel_rfl) (by kernel_rfl) (by kernel_rfl) (fun _ _ _ h => h) (Or.inr ⟨rfl, rfl⟩) hS2 ?_
              simp only [Act.put, List.setIfInBounds_toArray, List.set_cons_zero, List.set_cons_succ]
              refine takeR (fuel := 10) (i := 10) (v := undef) rfl (by kernel_rfl) (by kernel_rfl) (by kernel_rfl) (fun _ _ _ h => h) (Or.inr ⟨rfl, rfl⟩) hS2 ?_
              simp only [Act.put, List.setIfInBounds_toArray, List.set_cons_zero, List.set_cons_succ]
              refine takeR (fuel := 9) (i := 11) (v := undef) rfl (by kernel_rfl) (by kernel_rfl) (by kernel_rfl) (fun _ _ _ h => h) (Or.inr ⟨rfl, rfl⟩) hS2 ?_
              simp only [Act.put, List.setIfInBounds_toArray, List.set_cons_zero, List.set_cons_succ]
              refine takeR (fuel := 8) (i := 12) (v := undef) rfl (by kernel_rfl) (by kernel_rfl) (by kernel_rfl) (fun _ _ _ h => h) (Or.inr ⟨rfl, rfl⟩) hS2 ?_
              simp only [Act.put, List.setIfInBounds_toArray, List.set_cons_zero, List.set_cons_succ]
              refine takeR (fuel := 7) (i := 13) (v := undef) rfl (by kernel_rfl) (by kernel_rfl) (by kernel_rfl) (fun _ _ _ h => h) (Or.inr ⟨rfl, rfl⟩) hS2 ?_
              simp only [Act.put, List.setIfInBounds_toArray, List.set_cons_zero, List.set_cons_succ]
              refine takeR (fuel := 6) (i := 14) (v := undef) rfl (by kernel_rfl) (by kernel_rfl) (by kernel_rfl) (fun _ _ _ h => h) (Or.inr ⟨rfl, rfl⟩) hS2 ?_
              simp only [Act.put, List.setIfInBounds_toArray, List.set_cons_zero, List.set_cons_succ]
              refine takeR (fuel := 5) (i := 15) (v := undef) rfl (by kernel_rfl) (by kernel_rfl) (by kernel_rfl) (fun _ _ _ h => h) (Or.inr ⟨rfl, rfl⟩) hS2 ?_
              simp only [Act.put, List.setIfInBounds_toArray, List.set_cons_zero, List.set_cons_succ]
              refine takeR (fuel := 4) (i := 16) (v := undef) rfl (by kernel_rfl) (by kernel_rfl) (by kernel_rfl) (fun _ _ _ h => h) (Or.inr ⟨rfl, rfl⟩) hS2 ?_
              simp only [Act.put, List.setIfInBounds_toArray, List.set_cons_zero, List.set_cons_succ]
              refine takeR (fuel := 3) (i := 17) (v := undef) rfl (by kernel_rfl) (by kernel_rfl) (by kernel_rfl) (fun _ _ _ h => h) (Or.inr ⟨rfl, rfl⟩) hS2 ?_
              simp only [Act.put, List.setIfInBounds_toArray, List.set_cons_zero, List.set_cons_succ]
              refine takeR (fuel := 2) (i := 18) (v := undef) rfl (by kernel_rfl) (by kernel_rfl) (by kernel_rfl) (fun _ _ _ h => h) (Or.inr ⟨rfl, rfl⟩) hS2 ?_
              simp only [Act.put, List.setIfInBounds_toArray, List.set_cons_zero, List.set_cons_succ]
              refine takeR (fuel := 1) (i := 19) (v := undef) rfl (by kernel_rfl) (by kernel_rfl) (by kernel_rfl) (fun _ _ _ h => h) (Or.inr ⟨rfl, rfl⟩) hS2 ?_
              simp only [Act.put, List.setIfInBounds_toArray, List.set_cons_zero, List.set_cons_succ]
              refine takeR (fuel := 0) (i := 20) (v := .bool true) rfl (by kernel_rfl) (by kernel_rfl) (by kernel_rfl) (fun _ _ _ h => h) (Or.inl ⟨rfl, fun W hW => by go_simp⟩) hS2 ?_
              simp only [Act.put, List.setIfInBounds_toArray, List.set_cons_zero, List.set_cons_succ]
              refine wpAnyH_done (by kernel_rfl) ?_ _
              go_wp2_with fail
              go_roundw
              case rel => exact ⟨k + 1, by omega, by simp, by rw [HNQ.out, HNB.out], hS2⟩
              case measure => simp [intOf]; omega
            · by_cases hB : f n = f b2
              · by_cases hL : n < b2
                · have HNB : Hid (nb = n) := by unfold Hid; rw [HSt.out, stB, if_pos (Or.inr ⟨hB, hL⟩)]
                  have hBz : (f n == f b2) = true := by simp [hB]
                  clear HC HSt HMd HRE HI HBf hB
                  generalize f n = fn at *
                  generalize f b2 = fb at *
                  go_upto_region 16 with fail
                  refine wp_region_held (S := fun W => Below wq.heap.size wq W) (by kernel_rfl) ?_
                  change wpAnyH _ _ _ _ _ 21 #[false, false, false, false, false, false, false, false, false, false, false, false, false, false, false, false, false, false, false, false, false] _ wr.drew
                  have hS0 : Below wq.heap.size wq wr.drew := HBW.out.drew
                  clear c3 HBW HWr
                  generalize wr.drew = z0 at *
                  refine takeR (fuel := 20) (i := 0) (v := .agg #[.int .i64 0, .int .i64 0, .int .i64 0, .slice sa n0 sc]) rfl (by kernel_rfl) (by kernel_rfl) (by kernel_rfl) (fun _ _ _ h => h) (Or.inl ⟨rfl, fun W hW => by obtain ⟨c0, c1, c2, c3⟩ := HSc0.out W hW; go_simp⟩) hS0 ?_
                  simp only [Act.put, List.setIfInBounds_toArray, List.set_cons_zero, List.set_cons_succ]
                  refine takeR (fuel := 19) (i := 1) (v := .int .i64 n) rfl (by kernel_rfl) (by kernel_rfl) (by kernel_rfl) (fun _ _ _ h => h) (Or.inl ⟨rfl, fun W hW => by go_simp⟩) hS0 ?_
                  simp only [Act.put, List.setIfInBounds_toArray, List.set_cons_zero, List.set_cons_succ]
                  refine takeR (fuel := 18) (i := 3) (v := .agg #[.int .i64 0, .int .i64 0, .int .i64 0, .slice sa n0 sc]) rfl (by kernel_rfl) (by kernel_rfl) (by kernel_rfl) (fun _ _ _ h => h) (Or.inl ⟨rfl, fun W hW => by obtain ⟨c0, c1, c2, c3⟩ := HSc0.out W hW; go_simp⟩) hS0 ?_
                  simp only [Act.put, List.setIfInBounds_toArray, List.set_cons_zero, List.set_cons_succ]
                  refine takeR (fuel := 17) (i := 4) (v := .int .i64 b2) rfl (by kernel_rfl) (by kernel_rfl) (by kernel_rfl) (fun _ _ _ h => h) (Or.inl ⟨rfl, fun W hW => by go_simp⟩) hS0 ?_
                  simp only [Act.put, List.setIfInBounds_toArray, List.set_cons_zero, List.set_cons_succ]
                  refine consR (fuel := 16) (i := 2) rfl (by kernel_rfl) (fun K hK => ?_)
                  rw [if_pos (by rfl)]
                  go_simp
                  refine (HN.out _ hS0).mono ?_
                  rintro e z1 ⟨rfl, HB1⟩
                  refine hK.out _ _ HB1.out (fun hS1 => ?_)
                  clear hK
                  try simp only [Act.put, List.setIfInBounds_toArray, List.set_cons_zero, List.set_cons_succ]
                  refine consR (fuel := 15) (i := 5) rfl (by kernel_rfl) (fun K hK => ?_)
                  rw [if_pos (by rfl)]
                  go_simp
                  refine (HNb.out _ hS1).mono ?_
                  rintro e z2 ⟨rfl, HB2⟩
                  refine hK.out _ _ HB2.out (fun hS2 => ?_)
                  clear hK
                  try simp only [Act.put, List.setIfInBounds_toArray, List.set_cons_zero, List.set_cons_succ]
                  refine takeR (fuel := 14) (i := 6) (v := .bool false) rfl (by kernel_rfl) (by kernel_rfl) (by kernel_rfl) (fun _ _ _ h => h) (Or.inl ⟨rfl, fun W hW => by go_simp⟩) hS2 ?_
                  simp only [Act.put, List.setIfInBounds_toArray, List.set_cons_zero, List.set_cons_succ]
                  refine takeR (fuel := 13) (i := 7) (v := .bool false) rfl (by kernel_rfl) (by kernel_rfl) (by kernel_rfl) (fun _ _ _ h => h) (Or.inl ⟨rfl, fun W hW => by go_simp⟩) hS2 ?_
                  simp only [Act.put, List.setIfInBounds_toArray, List.set_cons_zero, List.set_cons_succ]
                  refine takeR (fuel := 12) (i := 8) (v := .agg #[.int .i64 0, .int .i64 0, .int .i64 0, .slice sa n0 sc]) rfl (by kernel_rfl) (by kernel_rfl) (by kernel_rfl) (fun _ _ _ h => h) (Or.inl ⟨rfl, fun W hW => by obtain ⟨c0, c1, c2, c3⟩ := HSc0.out W hW; go_simp⟩) hS2 ?_
                  simp only [Act.put, List.setIfInBounds_toArray, List.set_cons_zero, List.set_cons_succ]
                  refine takeR (fuel := 11) (i := 9) (v := .int .i64 n) rfl (by kernel_rfl) (by kernel_rfl) (by kernel_rfl) (fun _ _ _ h => h) (Or.inl ⟨rfl, fun W hW => by go_simp⟩) hS2 ?_
                  simp only [Act.put, List.setIfInBounds_toArray, List.set_cons_zero, List.set_cons_succ]
                  refine takeR (fuel := 10) (i := 11) (v := .agg #[.int .i64 0, .int .i64 0, .int .i64 0, .slice sa n0 sc]) rfl (by kernel_rfl) (by kernel_rfl) (by kernel_rfl) (fun _ _ _ h => h) (Or.inl ⟨rfl, fun W hW => by obtain ⟨c0, c1, c2, c3⟩ := HSc0.out W hW; go_simp⟩) hS2 ?_
                  simp only [Act.put, List.setIfInBounds_toArray, List.set_cons_zero, List.set_cons_succ]
                  refine takeR (fuel := 9) (i := 12) (v := .int .i64 b2) rfl (by kernel_rfl) (by kernel_rfl) (by kernel_rfl) (fun _ _ _ h => h) (Or.inl ⟨rfl, fun W hW => by go_simp⟩) hS2 ?_
                  simp only [Act.put, List.setIfInBounds_toArray, List.set_cons_zero, List.set_cons_succ]
                  refine consR (fuel := 8) (i := 10) rfl (by kernel_rfl) (fun K hK => ?_)
                  rw [if_pos (by rfl)]
                  go_simp
                  refine (HN.out _ hS2).mono ?_
                  rintro e z3 ⟨rfl, HB3⟩
                  refine hK.out _ _ HB3.out (fun hS3 => ?_)
                  clear hK
                  try simp only [Act.put, List.setIfInBounds_toArray, List.set_cons_zero, List.set_cons_succ]
                  refine consR (fuel := 7) (i := 13) rfl (by kernel_rfl) (fun K hK => ?_)
                  rw [if_pos (by rfl)]
                  go_simp
                  refine (HNb.out _ hS3).mono ?_
                  rintro e z4 ⟨rfl, HB4⟩
                  refine hK.out _ _ HB4.out (fun hS4 => ?_)
                  clear hK
                  try simp only [Act.put, List.setIfInBounds_toArray, List.set_cons_zero, List.set_cons_succ]
                  refine takeR (fuel := 6) (i := 14) (v := .bool true) rfl (by kernel_rfl) (by kernel_rfl) (by kernel_rfl) (fun _ _ _ h => h) (Or.inl ⟨rfl, fun W hW => by go_simp⟩) hS4 ?_
                  simp only [Act.put, List.setIfInBounds_toArray, List.set_cons_zero, List.set_cons_succ]
                  refine takeR (fuel := 5) (i := 15) (v := .bool true) rfl (by kernel_rfl) (by kernel_rfl) (by kernel_rfl) (fun _ _ _ h => h) (Or.inl ⟨rfl, fun W hW => by go_simp⟩) hS4 ?_
                  simp only [Act.put, List.setIfInBounds_toArray, List.set_cons_zero, List.set_cons_succ]
                  refine takeR (fuel := 4) (i := 16) (v := .int .i64 n) rfl (by kernel_rfl) (by kernel_rfl) (by kernel_rfl) (fun _ _ _ h => h) (Or.inl ⟨rfl, fun W hW => by go_simp⟩) hS4 ?_
                  simp only [Act.put, List.setIfInBounds_toArray, List.set_cons_zero, List.set_cons_succ]
                  refine takeR (fuel := 3) (i := 17) (v := .int .i64 b2) rfl (by kernel_rfl) (by kernel_rfl) (by kernel_rfl) (fun _ _ _ h => h) (Or.inl ⟨rfl, fun W hW => by go_simp⟩) hS4 ?_
                  simp only [Act.put, List.setIfInBounds_toArray, List.set_cons_zero, List.set_cons_succ]
                  refine takeR (fuel := 2) (i := 18) (v := .bool true) rfl (by kernel_rfl) (by kernel_rfl) (by kernel_rfl) (fun _ _ _ h => h) (Or.inl ⟨rfl, fun W hW => by go_simp⟩) hS4 ?_
                  simp only [Act.put, List.setIfInBounds_toArray, List.set_cons_zero, List.set_cons_succ]
                  refine takeR (fuel := 1) (i := 19) (v := .bool true) rfl (by kernel_rfl) (by kernel_rfl) (by kernel_rfl) (fun _ _ _ h => h) (Or.inl ⟨rfl, fun W hW => by go_simp⟩) hS4 ?_
                  simp only [Act.put, List.setIfInBounds_toArray, List.set_cons_zero, List.set_cons_succ]
                  refine takeR (fuel := 0) (i := 20) (v := .bool true) rfl (by kernel_rfl) (by kernel_rfl) (by kernel_rfl) (fun _ _ _ h => h) (Or.inl ⟨rfl, fun W hW => by go_simp⟩) hS4 ?_
                  simp only [Act.put, List.setIfInBounds_toArray, List.set_cons_zero, List.set_cons_succ]
                  refine wpAnyH_done (by kernel_rfl) ?_ _
                  go_wp2_with fail
                  go_roundw
                  case rel => exact ⟨k + 1, by omega, by simp, by rw [HNQ.out, HNB.out], hS4⟩
                  case measure => simp [intOf]; omega
                · have HNB : Hid (nb = b2) := by unfold Hid; rw [HSt.out, stB, if_neg (by omega)]
                  have hBz : (f n == f b2) = true := by simp [hB]
                  clear HC HSt HMd HRE HI HBf hB
                  generalize f n = fn at *
                  generalize f b2 = fb at *
                  go_upto_region 16 with fail
                  refine wp_region_held (S := fun W => Below wq.heap.size wq W) (by kernel_rfl) ?_
                  change wpAnyH _ _ _ _ _ 21 #[false, false, false, false, false, false, false, false, false, false, false, false, false, false, false, false, false, false, false, false, false] _ wr.drew
                  have hS0 : Below wq.heap.size wq wr.drew := HBW.out.drew
                  clear c3 HBW HWr
                  generalize wr.drew = z0 at *
                  refine takeR (fuel := 20) (i := 0) (v := .agg #[.int .i64 0, .int .i64 0, .int .i64 0, .slice sa n0 sc]) rfl (by kernel_rfl) (by kernel_rfl) (by kernel_rfl) (fun _ _ _ h => h) (Or.inl ⟨rfl, fun W hW => by obtain ⟨c0, c1, c2, c3⟩ := HSc0.out W hW; go_simp⟩) hS0 ?_
                  simp only [Act.put, List.setIfInBounds_toArray, List.set_cons_zero, List.set_cons_succ]
                  refine takeR (fuel := 19) (i := 1) (v := .int .i64 n) rfl (by kernel_rfl) (by kernel_rfl) (by kernel_rfl) (fun _ _ _ h => h) (Or.inl ⟨rfl, fun W hW => by go_simp⟩) hS0 ?_
                  simp only [Act.put, List.setIfInBounds_toArray, List.set_cons_zero, List.set_cons_succ]
                  refine takeR (fuel := 18) (i := 3) (v := .agg #[.int .i64 0, .int .i64 0, .int .i64 0, .slice sa n0 sc]) rfl (by kernel_rfl) (by kernel_rfl) (by kernel_rfl) (fun _ _ _ h => h) (Or.inl ⟨rfl, fun W hW => by obtain ⟨c0, c1, c2, c3⟩ := HSc0.out W hW; go_simp⟩) hS0 ?_
                  simp only [Act.put, List.setIfInBounds_toArray, List.set_cons_zero, List.set_cons_succ]
                  refine takeR (fuel := 17) (i := 4) (v := .int .i64 b2) rfl (by kernel_rfl) (by kernel_rfl) (by kernel_rfl) (fun _ _ _ h => h) (Or.inl ⟨rfl, fun W hW => by go_simp⟩) hS0 ?_
                  simp only [Act.put, List.setIfInBounds_toArray, List.set_cons_zero, List.set_cons_succ]
                  refine consR (fuel := 16) (i := 2) rfl (by kernel_rfl) (fun K hK => ?_)
                  rw [if_pos (by rfl)]
                  go_simp
                  refine (HN.out _ hS0).mono ?_
                  rintro e z1 ⟨rfl, HB1⟩
                  refine hK.out _ _ HB1.out (fun hS1 => ?_)
                  clear hK
                  try simp only [Act.put, List.setIfInBounds_toArray, List.set_cons_zero, List.set_cons_succ]
                  refine consR (fuel := 15) (i := 5) rfl (by kernel_rfl) (fun K hK => ?_)
                  rw [if_pos (by rfl)]
                  go_simp
                  refine (HNb.out _ hS1).mono ?_
                  rintro e z2 ⟨rfl, HB2⟩
                  refine hK.out _ _ HB2.out (fun hS2 => ?_)
                  clear hK
                  try simp only [Act.put, List.setIfInBounds_toArray, List.set_cons_zero, List.set_cons_succ]
                  refine takeR (fuel := 14) (i := 6) (v := .bool false) rfl (by kernel_rfl) (by kernel_rfl) (by kernel_rfl) (fun _ _ _ h => h) (Or.inl ⟨rfl, fun W hW => by go_simp⟩) hS2 ?_
                  simp only [Act.put, List.setIfInBounds_toArray, List.set_cons_zero, List.set_cons_succ]
                  refine takeR (fuel := 13) (i := 7) (v := .bool false) rfl (by kernel_rfl) (by kernel_rfl) (by kernel_rfl) (fun _ _ _ h => h) (Or.inl ⟨rfl, fun W hW => by go_simp⟩) hS2 ?_
                  simp only [Act.put, List.setIfInBounds_toArray, List.set_cons_zero, List.set_cons_succ]
                  refine takeR (fuel := 12) (i := 8) (v := .agg #[.int .i64 0, .int .i64 0, .int .i64 0, .slice sa n0 sc]) rfl (by kernel_rfl) (by kernel_rfl) (by kernel_rfl) (fun _ _ _ h => h) (Or.inl ⟨rfl, fun W hW => by obtain ⟨c0, c1, c2, c3⟩ := HSc0.out W hW; go_simp⟩) hS2 ?_
                  simp only [Act.put, List.setIfInBounds_toArray, List.set_cons_zero, List.set_cons_succ]
                  refine takeR (fuel := 11) (i := 9) (v := .int .i64 n) rfl (by kernel_rfl) (by kernel_rfl) (by kernel_rfl) (fun _ _ _ h => h) (Or.inl ⟨rfl, fun W hW => by go_simp⟩) hS2 ?_
                  simp only [Act.put, List.setIfInBounds_toArray, List.set_cons_zero, List.set_cons_succ]
                  refine takeR (fuel := 10) (i := 11) (v := .agg #[.int .i64 0, .int .i64 0, .int .i64 0, .slice sa n0 sc]) rfl (by kernel_rfl) (by kernel_rfl) (by kernel_rfl) (fun _ _ _ h => h) (Or.inl ⟨rfl, fun W hW => by obtain ⟨c0, c1, c2, c3⟩ := HSc0.out W hW; go_simp⟩) hS2 ?_
                  simp only [Act.put, List.setIfInBounds_toArray, List.set_cons_zero, List.set_cons_succ]
                  refine takeR (fuel := 9) (i := 12) (v := .int .i64 b2) rfl (by kernel_rfl) (by kernel_rfl) (by kernel_rfl) (fun _ _ _ h => h) (Or.inl ⟨rfl, fun W hW => by go_simp⟩) hS2 ?_
                  simp only [Act.put, List.setIfInBounds_toArray, List.set_cons_zero, List.set_cons_succ]
                  refine consR (fuel := 8) (i := 10) rfl (by kernel_rfl) (fun K hK => ?_)
                  rw [if_pos (by rfl)]
                  go_simp
                  refine (HN.out _ hS2).mono ?_
                  rintro e z3 ⟨rfl, HB3⟩
                  refine hK.out _ _ HB3.out (fun hS3 => ?_)
                  clear hK
                  try simp only [Act.put, List.setIfInBounds_toArray, List.set_cons_zero, List.set_cons_succ]
                  refine consR (fuel := 7) (i := 13) rfl (by kernel_rfl) (fun K hK => ?_)
                  rw [if_pos (by rfl)]
                  go_simp
                  refine (HNb.out _ hS3).mono ?_
                  rintro e z4 ⟨rfl, HB4⟩
                  refine hK.out _ _ HB4.out (fun hS4 => ?_)
                  clear hK
                  try simp only [Act.put, List.setIfInBounds_toArray, List.set_cons_zero, List.set_cons_succ]
                  refine takeR (fuel := 6) (i := 14) (v := .bool true) rfl (by kernel_rfl) (by kernel_rfl) (by kernel_rfl) (fun _ _ _ h => h) (Or.inl ⟨rfl, fun W hW => by go_simp⟩) hS4 ?_
                  simp only [Act.put, List.setIfInBounds_toArray, List.set_cons_zero, List.set_cons_succ]
                  refine takeR (fuel := 5) (i := 15) (v := .bool true) rfl (by kernel_rfl) (by kernel_rfl) (by kernel_rfl) (fun _ _ _ h => h) (Or.inl ⟨rfl, fun W hW => by go_simp⟩) hS4 ?_
                  simp only [Act.put, List.setIfInBounds_toArray, List.set_cons_zero, List.set_cons_succ]
                  refine takeR (fuel := 4) (i := 16) (v := .int .i64 n) rfl (by kernel_rfl) (by kernel_rfl) (by kernel_rfl) (fun _ _ _ h => h) (Or.inl ⟨rfl, fun W hW => by go_simp⟩) hS4 ?_
                  simp only [Act.put, List.setIfInBounds_toArray, List.set_cons_zero, List.set_cons_succ]
                  refine takeR (fuel := 3) (i := 17) (v := .int .i64 b2) rfl (by kernel_rfl) (by kernel_rfl) (by kernel_rfl) (fun _ _ _ h => h) (Or.inl ⟨rfl, fun W hW => by go_simp⟩) hS4 ?_
                  simp only [Act.put, List.setIfInBounds_toArray, List.set_cons_zero, List.set_cons_succ]
                  refine takeR (fuel := 2) (i := 18) (v := .bool false) rfl (by kernel_rfl) (by kernel_rfl) (by kernel_rfl) (fun _ _ _ h => h) (Or.inl ⟨rfl, fun W hW => by go_simp⟩) hS4 ?_
                  simp only [Act.put, List.setIfInBounds_toArray, List.set_cons_zero, List.set_cons_succ]
                  refine takeR (fuel := 1) (i := 19) (v := .bool false) rfl (by kernel_rfl) (by kernel_rfl) (by kernel_rfl) (fun _ _ _ h => h) (Or.inl ⟨rfl, fun W hW => by go_simp⟩) hS4 ?_
                  simp only [Act.put, List.setIfInBounds_toArray, List.set_cons_zero, List.set_cons_succ]
                  refine takeR (fuel := 0) (i := 20) (v := .bool false) rfl (by kernel_rfl) (by kernel_rfl) (by kernel_rfl) (fun _ _ _ h => h) (Or.inl ⟨rfl, fun W hW => by go_simp⟩) hS4 ?_
                  simp only [Act.put, List.setIfInBounds_toArray, List.set_cons_zero, List.set_cons_succ]
                  refine wpAnyH_done (by kernel_rfl) ?_ _
                  go_wp2_with fail
                  go_roundw
                  case rel => exact ⟨k + 1, by omega, by simp, by rw [HNQ.out, HNB.out], hS4⟩
                  case measure => simp [intOf]; omega
              · have HNB : Hid (nb = b2) := by unfold Hid; rw [HSt.out, stB, if_neg (by omega)]
                have hBz : (f n == f b2) = false := by simp [hB]
                clear HC HSt HMd HRE HI HBf hB
                generalize f n = fn at *
                generalize f b2 = fb at *
                go_upto_region 16 with fail
                refine wp_region_held (S := fun W => Below wq.heap.size wq W) (by kernel_rfl) ?_
                change wpAnyH _ _ _ _ _ 21 #[false, false, false, false, false, false, false, false, false, false, false, false, false, false, false, false, false, false, false, false, false] _ wr.drew
                have hS0 : Below wq.heap.size wq wr.drew := HBW.out.drew
                clear c3 HBW HWr
                generalize wr.drew = z0 at *
                refine takeR (fuel := 20) (i := 0) (v := .agg #[.int .i64 0, .int .i64 0, .int .i64 0, .slice sa n0 sc]) rfl (by kernel_rfl) (by kernel_rfl) (by kernel_rfl) (fun _ _ _ h => h) (Or.inl ⟨rfl, fun W hW => by obtain ⟨c0, c1, c2, c3⟩ := HSc0.out W hW; go_simp⟩) hS0 ?_
                simp only [Act.put, List.setIfInBounds_toArray, List.set_cons_zero, List.set_cons_succ]
                refine takeR (fuel := 19) (i := 1) (v := .int .i64 n) rfl (by kernel_rfl) (by kernel_rfl) (by kernel_rfl) (fun _ _ _ h => h) (Or.inl ⟨rfl, fun W hW => by go_simp⟩) hS0 ?_
                simp only [Act.put, List.setIfInBounds_toArray, List.set_cons_zero, List.set_cons_succ]
                refine takeR (fuel := 18) (i := 3) (v := .agg #[.int .i64 0, .int .i64 0, .int .i64 0, .slice sa n0 sc]) rfl (by kernel_rfl) (by kernel_rfl) (by kernel_rfl) (fun _ _ _ h => h) (Or.inl ⟨rfl, fun W hW => by obtain ⟨c0, c1, c2, c3⟩ := HSc0.out W hW; go_simp⟩) hS0 ?_
                simp only [Act.put, List.setIfInBounds_toArray, List.set_cons_zero, List.set_cons_succ]
                refine takeR (fuel := 17) (i := 4) (v := .int .i64 b2) rfl (by kernel_rfl) (by kernel_rfl) (by kernel_rfl) (fun _ _ _ h => h) (Or.inl ⟨rfl, fun W hW => by go_simp⟩) hS0 ?_
                simp only [Act.put, List.setIfInBounds_toArray, List.set_cons_zero, List.set_cons_succ]
                refine consR (fuel := 16) (i := 2) rfl (by kernel_rfl) (fun K hK => ?_)
                rw [if_pos (by rfl)]
                go_simp
                refine (HN.out _ hS0).mono ?_
                rintro e z1 ⟨rfl, HB1⟩
                refine hK.out _ _ HB1.out (fun hS1 => ?_)
                clear hK
                try simp only [Act.put, List.setIfInBounds_toArray, List.set_cons_zero, List.set_cons_succ]
                refine consR (fuel := 15) (i := 5) rfl (by kernel_rfl) (fun K hK => ?_)
                rw [if_pos (by rfl)]
                go_simp
                refine (HNb.out _ hS1).mono ?_
                rintro e z2 ⟨rfl, HB2⟩
                refine hK.out _ _ HB2.out (fun hS2 => ?_)
                clear hK
                try simp only [Act.put, List.setIfInBounds_toArray, List.set_cons_zero, List.set_cons_succ]
                refine takeR (fuel := 14) (i := 6) (v := .bool false) rfl (by kernel_rfl) (by kernel_rfl) (by kernel_rfl) (fun _ _ _ h => h) (Or.inl ⟨rfl, fun W hW => by go_simp⟩) hS2 ?_
                simp only [Act.put, List.setIfInBounds_toArray, List.set_cons_zero, List.set_cons_succ]
                refine takeR (fuel := 13) (i := 7) (v := .bool false) rfl (by kernel_rfl) (by kernel_rfl) (by kernel_rfl) (fun _ _ _ h => h) (Or.inl ⟨rfl, fun W hW => by go_simp⟩) hS2 ?_
                simp only [Act.put, List.setIfInBounds_toArray, List.set_cons_zero, List.set_cons_succ]
                refine takeR (fuel := 12) (i := 8) (v := .agg #[.int .i64 0, .int .i64 0, .int .i64 0, .slice sa n0 sc]) rfl (by kernel_rfl) (by kernel_rfl) (by kernel_rfl) (fun _ _ _ h => h) (Or.inl ⟨rfl, fun W hW => by obtain ⟨c0, c1, c2, c3⟩ := HSc0.out W hW; go_simp⟩) hS2 ?_
                simp only [Act.put, List.setIfInBounds_toArray, List.set_cons_zero, List.set_cons_succ]
                refine takeR (fuel := 11) (i := 9) (v := .int .i64 n) rfl (by kernel_rfl) (by kernel_rfl) (by kernel_rfl) (fun _ _ _ h => h) (Or.inl ⟨rfl, fun W hW => by go_simp⟩) hS2 ?_
                simp only [Act.put, List.setIfInBounds_toArray, List.set_cons_zero, List.set_cons_succ]
                refine takeR (fuel := 10) (i := 11) (v := .agg #[.int .i64 0, .int .i64 0, .int .i64 0, .slice sa n0 sc]) rfl (by kernel_rfl) (by kernel_rfl) (by kernel_rfl) (fun _ _ _ h => h) (Or.inl ⟨rfl, fun W hW => by obtain ⟨c0, c1, c2, c3⟩ := HSc0.out W hW; go_simp⟩) hS2 ?_
                simp only [Act.put, List.setIfInBounds_toArray, List.set_cons_zero, List.set_cons_succ]
                refine takeR (fuel := 9) (i := 12) (v := .int .i64 b2) rfl (by kernel_rfl) (by kernel_rfl) (by kernel_rfl) (fun _ _ _ h => h) (Or.inl ⟨rfl, fun W hW => by go_simp⟩) hS2 ?_
                simp only [Act.put, List.setIfInBounds_toArray, List.set_cons_zero, List.set_cons_succ]
                refine consR (fuel := 8) (i := 10) rfl (by kernel_rfl) (fun K hK => ?_)
                rw [if_pos (by rfl)]
                go_simp
                refine (HN.out _ hS2).mono ?_
                rintro e z3 ⟨rfl, HB3⟩
                refine hK.out _ _ HB3.out (fun hS3 => ?_)
                clear hK
                try simp only [Act.put, List.setIfInBounds_toArray, List.set_cons_zero, List.set_cons_succ]
                refine consR (fuel := 7) (i := 13) rfl (by kernel_rfl) (fun K hK => ?_)
                rw [if_pos (by rfl)]
                go_simp
                refine (HNb.out _ hS3).mono ?_
                rintro e z4 ⟨rfl, HB4⟩
                refine hK.out _ _ HB4.out (fun hS4 => ?_)
                clear hK
                try simp only [Act.put, List.setIfInBounds_toArray, List.set_cons_zero, List.set_cons_succ]
                refine takeR (fuel := 6) (i := 14) (v := .bool false) rfl (by kernel_rfl) (by kernel_rfl) (by kernel_rfl) (fun _ _ _ h => h) (Or.inl ⟨rfl, fun W hW => by go_simp⟩) hS4 ?_
                simp only [Act.put, List.setIfInBounds_toArray, List.set_cons_zero, List.set_cons_succ]
                refine takeR (fuel := 5) (i := 15) (v := .bool false) rfl (by kernel_rfl) (by kernel_rfl) (by kernel_rfl) (fun _ _ _ h => h) (Or.inl ⟨rfl, fun W hW => by go_simp⟩) hS4 ?_
                simp only [Act.put, List.setIfInBounds_toArray, List.set_cons_zero, List.set_cons_succ]
                refine takeR (fuel := 4) (i := 16) (v := undef) rfl (by kernel_rfl) (by kernel_rfl) (by kernel_rfl) (fun _ _ _ h => h) (Or.inr ⟨rfl, rfl⟩) hS4 ?_
                simp only [Act.put, List.setIfInBounds_toArray, List.set_cons_zero, List.set_cons_succ]
                refine takeR (fuel := 3) (i := 17) (v := undef) rfl (by kernel_rfl) (by kernel_rfl) (by kernel_rfl) (fun _ _ _ h => h) (Or.inr ⟨rfl, rfl⟩) hS4 ?_
                simp only [Act.put, List.setIfInBounds_toArray, List.set_cons_zero, List.set_cons_succ]
                refine takeR (fuel := 2) (i := 18) (v := undef) rfl (by kernel_rfl) (by kernel_rfl) (by kernel_rfl) (fun _ _ _ h => h) (Or.inr ⟨rfl, rfl⟩) hS4 ?_
                simp only [Act.put, List.setIfInBounds_toArray, List.set_cons_zero, List.set_cons_succ]
                refine takeR (fuel := 1) (i := 19) (v := .bool false) rfl (by kernel_rfl) (by kernel_rfl) (by kernel_rfl) (fun _ _ _ h => h) (Or.inl ⟨rfl, fun W hW => by go_simp⟩) hS4 ?_
                simp only [Act.put, List.setIfInBounds_toArray, List.set_cons_zero, List.set_cons_succ]
                refine takeR (fuel := 0) (i := 20) (v := .bool false) rfl (by kernel_rfl) (by kernel_rfl) (by kernel_rfl) (fun _ _ _ h => h) (Or.inl ⟨rfl, fun W hW => by go_simp⟩) hS4 ?_
                simp only [Act.put, List.setIfInBounds_toArray, List.set_cons_zero, List.set_cons_succ]
                refine wpAnyH_done (by kernel_rfl) ?_ _
                go_wp2_with fail
                go_roundw
                case rel => exact ⟨k + 1, by omega, by simp, by rw [HNQ.out, HNB.out], hS4⟩
                case measure => simp [intOf]; omega
          · have hkz : ¬ (k : Int) < (xs.length : Int) := by omega
            have e : bst f i0 (niss (xs.take k)) = b := by rw [show k = xs.length by omega, List.take_length]; exact HBf.out
            rw [e] at *
            obtain ⟨e0, e1, e2, e3⟩ := HSc0.out wr HBW.out
            have HC1 := hid_in (HC.out b wr HBW.out)
            have HM1 : Hid (∀ W, Below wq.heap.size wq W → Calls Tryz.prog 31 #[.int .i64 (f b), .int .i64 1000000, .int .i64 T, .int .i64 1] W fun e w' => e = .returned (.tuple #[.int .i64 (f b * 1000000 / T), .int .i64 0]) ∧ Hid (Below w.heap.size w w')) := fun W hb => (HMd.out W).mono fun e w' hh => ⟨hh.1, HW4.out.trans ((hb.trans (hh.2.out.mono hb.size)).mono HW4.out.size)⟩
            clear HC HSc0 HMd HBf e
            generalize f b * 1000000 / T = R at *
            generalize f b = g at *
            go_wp2_with (first | (go_at_call 30; refine HC1.out.mono ?_; clear HC1; rintro e w6 ⟨rfl, HB6⟩) | (go_at_call 31; refine (HM1.out _ HB6.out).mono ?_; clear HM1; rintro e w7 ⟨rfl, HB7⟩))
            go_ret3
            exact HRE.out _ HB7.out
end Go.Proofs.YtdfadcbchiogjaaGreat
