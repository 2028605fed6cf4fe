/- layer 16: Greatest of the program -/
import Derived.Test.YtdfadcbchiogjaaGreatPB
import Derived.Test.YtdfadcbchiogjaaGreatPC
import Derived.Test.YtdfadcbchiogjaaGreatOA
import Derived.Test.YtdfadcbchiogjaaGreatNL
import Derived.WalkKit
import Derived.ProofKit
import Derived.Handy
import Derived.WalkLawsBesides
import Derived.WalkSpells
import Derived.BigQuiet
import Derived.BigCall
import Derived.Deep.QuietTactic
import Derived.Deep.Light
import Derived.Deep.OwnRows
import Derived.Laws.AppendOwnNone
import Derived.Laws.Strings3
import Derived.Laws.RangeAny
import Derived.Deep.RegionWith
import Derived.Lib.BitFns
import Derived.Lib.Walk
import Derived.Lib.Strings
import Derived.Lib.OthersKept
import Derived.Deep.CutBlock
import Derived.Deep.DeepCutAuto
import Derived.Deep.LoopGhost
import Derived.Deep.RegionHeld3
import Derived.Lib.SmallJoins
import Derived.Maps.AppendAt
import Derived.Laws.IdiomStrings
import Derived.Lib.AppendZeros
import Derived.Deep.WholeRow
import Derived.Laws.BitsAllLaws
import Derived.Lib.ConvBytes
import Derived.Deep.RegionLaw
import Derived.Maps.OwnSet
import Derived.Maps.OwnOps
import Derived.Maps.RangeWalk
import Derived.Maps.Ext
import Derived.DeepKeys4
import Derived.Laws.StructEq
import Derived.Deep.MidRow
import Derived.Lib.Bytealg
import Derived.Lib.AppendZerosOnto
import Derived.Laws.MakeOwn
import Derived.Deep.Upon
import Derived.Sort.KeysCollected
import Derived.Shelf.AbstractIn
import Derived.RangeFuncSeq
import Derived.RangeFuncGives
import Derived.Sort.MapsRangeIn
import Derived.OwnWalkIn
import Derived.TacticsInMore
import Derived.RegionIn
import Derived.LoopNIn
import Derived.LoopIn
import Derived.Lib.SlKeysI
namespace Go.Proofs.YtdfadcbchiogjaaGreat
open Go.RowKit
set_option linter.unusedVariables false
set_option linter.unusedSimpArgs false
set_option maxRecDepth 20000
open Go.Maps Go.Sort Go.Shelf
/-- sums by issuers in a map under way -/
structure Gm (w0 W : World) (m : Nat) (Q : List Pt) : Prop where
  h : ∃ L, Mp KI Tryz.prog W m L ∧ (∀ n, gt L n = smI Q n) ∧ (∀ n, n ∈ L.map Prod.fst ↔ n ∈ Q.map (·.i)) ∧ L.length ≤ Q.length
  k : Below w0.heap.size w0 W
  l : w0.heap.size ≤ m
theorem Gm.lt {w0 W : World} {m : Nat} {Q : List Pt} (h : Gm w0 W m Q) : m < W.heap.size := by
  obtain ⟨L, h1, _⟩ := h.h
  exact h1.lt
theorem Gm.below {w0 W W' : World} {m : Nat} {Q : List Pt} (h : Gm w0 W m Q) (hb : Below W.heap.size W W') : Gm w0 W' m Q := by
  have hl := h.lt
  obtain ⟨L, h1, h2⟩ := h.h
  exact ⟨⟨L, h1.same (hb.block _ hl), h2⟩, h.k.trans (hb.mono h.k.size), h.l⟩
theorem Gm.look {w0 W : World} {m : Nat} {Q : List Pt} (h : Gm w0 W m Q) {n : Int} (hn : Rng n) : (Instr.lookup 73 (.map (some m)) (.int .i64 n) false).run Tryz.prog W = .ok (.int .i64 (smI Q n)) W := by
  obtain ⟨L, h1, h2, _⟩ := h.h
  have := h1.look OI (a := n) hn.wf
  rw [h2] at this
  exact this
theorem Gm.step {w0 W : World} {m : Nat} {Q : List Pt} (h : Gm w0 W m Q) {q : Pt} (hn : Rng q.i) (hl : Q.length ≤ 1000000) :
    ∃ W', (Instr.mapUpdate 73 (.map (some m)) (.int .i64 q.i) (.int .i64 (smI Q q.i + q.c))).run Tryz.prog W = .ok () W' ∧ Gm w0 W' m (Q ++ [q]) := by
  obtain ⟨L, h1, h2, h3, h4⟩ := h.h
  obtain ⟨W', hr, hm, hg, hs⟩ := h1.store OI (a := q.i) hn.wf (smI Q q.i + q.c) (by unfold maxLen; omega)
  obtain ⟨es, o1, o2, o3, o4⟩ := h1
  refine ⟨W', hr, ⟨⟨_, hm, fun n => ?_, fun n => ?_, ?_⟩, h.k.grown hg h.k.size (fun j hj => by cases hj; exact h.l), h.l⟩⟩
  · rw [gt_pt o4, smI_app, h2]
    simp only [smI]
    by_cases e : n = q.i
    · subst e; simp
    · rw [if_neg e, if_neg (fun k => e k.symm)]; omega
  · rw [List.map_append, List.mem_append, ← h3]
    unfold pt dr
    simp only [List.map_cons, List.mem_cons, List.mem_map, List.mem_filter, List.map_nil, List.not_mem_nil, or_false]
    constructor
    · rintro (rfl | ⟨p, ⟨hp, _⟩, rfl⟩)
      · exact .inr rfl
      · exact .inl ⟨p, hp, rfl⟩
    · rintro (⟨p, hp, rfl⟩ | rfl)
      · by_cases e : p.1 = q.i
        · exact .inl e
        · exact .inr ⟨p, ⟨hp, by simpa using e⟩, rfl⟩
      · exact .inl rfl
  · have : (dr L q.i).length ≤ L.length := List.length_filter_le _ _
    simp only [pt, List.length_cons, List.length_append, List.length_nil]
    omega
def ScP (Q : List Pt) (B : Nat) (w : World) (e : Ending) (w' : World) : Prop := ∃ (S : List Int) (a : Option Addr) (cap : Nat), e = .returned (.slice a S.length cap) ∧ Hid (S.Pairwise (fun a b => decide (a < b) = true) ∧ (∀ n, n ∈ S ↔ n ∈ Q.map (·.i)) ∧ S.length ≤ Q.length ∧ Rw 1 ics w' a S ∧ Below w.heap.size w w')
theorem Gm.sorted {w0 w : World} {m : Nat} {Q : List Pt} (h : Gm w0 w m Q) (hl : Q.length ≤ 1000000) :
    Calls Tryz.prog 26 #[.func (.func 48) #[] #[.pointer (some ⟨w.heap.size, 0, none⟩)]] (w.alloc (.cells #[.map (some m)] 73)) (ScP Q w.heap.size (w.alloc (.cells #[.map (some m)] 73))) := by
  obtain ⟨L, ⟨es, h1, h2, h3, h4⟩, h5, h6, h7⟩ := h.h
  have hp : (intKeys (DataW.map es : Dt)).Perm (L.map Prod.fst) := by
    show (es.map fun p => Go.intOf p.1).Perm _
    have := h2.map (fun p => Go.intOf p.1)
    rw [List.map_map] at this
    exact this
  have hsz : Maps.size (DataW.map es : Dt) = L.length := by rw [Maps.size_eq, h2.length_eq, List.length_map]
  have hL : L.length ≤ 1000000 := by omega
  have hseq : SeqGives Fence.wide 2 Tryz.prog 48 #[.pointer (some ⟨w.heap.size, 0, none⟩)] encZ (fun ss => ss.Perm (intKeys (DataW.map es : Dt))) (Maps.size (DataW.map es : Dt)) (w.alloc (.cells #[.map (some m)] 73)) :=
    AnyZI.keys_gives (ρ := Tryz.keysI_ren) { Tryz.keysI with } Fence.wide _ trivial rfl (by omega) w.heap.size m L.length _ _ (by simp) (by simp) (om_alloc h1 _)
  have cS := AnyZI.sorted_in Tryz.sortedI Fence.wide 5 trivial trivial trivial trivial rfl (by omega) (sortsI _) (enters_of Tryz.func47 (by kernel_rfl) rfl) 48 #[.pointer (some ⟨w.heap.size, 0, none⟩)] trivial (enters_of Tryz.func48 (by kernel_rfl) rfl) _ _ (by rw [hsz]; unfold maxLen; omega) (by rw [hsz]; omega) _ hseq
  refine ((callsIn_wide (n := 5)).1 cS).mono fun e w' hh => ?_
  obtain ⟨v, ss, rfl, hs, hr, -, hb⟩ := hh
  have hn := sorted_i (hs.trans hp) h4
  have ho : w'.ownsRow (w.heap.size + 1) 3 1 v (ss.mergeSort).length ((ss.mergeSort).map encZ) := by
    rw [List.length_mergeSort]
    have : (w.alloc (.cells #[.map (some m)] 73)).heap.size = w.heap.size + 1 := by simp
    rw [← this]
    exact hr
  rw [← rcs_ics] at ho
  obtain ⟨a, cap, rfl, hc, hr2⟩ := own_rw ics_len ho rfl
  refine ⟨_, a, cap, rfl, hn.1, fun n => by rw [hn.2, h6], ?_, hr2, hb⟩
  rw [List.length_mergeSort, hs.length_eq, hp.length_eq, List.length_map]
  exact h7
/-- the best of those seen so far -/
def Bs (f : Int → Int) (S : List Int) (b mo : Int) : Prop := (mo = 0 ∧ b = 0 ∧ ∀ m ∈ S, f m ≤ 0) ∨ (isB f S b ∧ mo = f b ∧ 0 < mo)
theorem Bs.yes {f : Int → Int} {S : List Int} {b mo n : Int} (h : Bs f S b mo) (hn : mo < f n) (h0 : 0 ≤ mo) : Bs f (S ++ [n]) n (f n) := by
  refine .inr ⟨⟨by simp, fun m hm => ?_⟩, rfl, by omega⟩
  rcases List.mem_append.1 hm with hm | hm
  · rcases h with ⟨_, _, h3⟩ | ⟨h1, h2, _⟩
    · exact .inl (by have := h3 m hm; omega)
    · exact .inl (by have := h1.2 m hm; omega)
  · simp at hm
    subst hm
    exact .inr ⟨rfl, Int.le_refl _⟩
theorem Bs.no {f : Int → Int} {S : List Int} {b mo n : Int} (h : Bs f S b mo) (hn : ¬ mo < f n) (hs : ∀ m ∈ S, m < n) : Bs f (S ++ [n]) b mo := by
  rcases h with ⟨h1, h2, h3⟩ | ⟨h1, h2, h3⟩
  · refine .inl ⟨h1, h2, fun m hm => ?_⟩
    rcases List.mem_append.1 hm with hm | hm
    · exact h3 m hm
    · simp at hm; subst hm; omega
  · refine .inr ⟨⟨List.mem_append_left _ h1.1, fun m hm => ?_⟩, h2, h3⟩
    rcases List.mem_append.1 hm with hm | hm
    · exact h1.2 m hm
    · simp at hm
      subst hm
      have := hs b h1.1
      omega
theorem gre_more (f : Int → Int) : ∀ (S T : List Int) (b : Int), isB f T b → ∃ b, isB f (T ++ S) b
  | [], T, b, h => ⟨b, by rw [List.append_nil]; exact h⟩
  | n :: S, T, b, h => by
    have := gre_more f S (T ++ [n]) _ (isB_snoc h n)
    rwa [List.append_assoc] at this
theorem gre (f : Int → Int) {S : List Int} (h : S ≠ []) : ∃ b, isB f S b := by
  match S, h with
  | n :: S, _ => exact gre_more f S [n] n (isB_one f n)
theorem itot_sm : ∀ (xs : List H5.It) (s : Int), (H5.itot s xs).2 = 0 → (H5.itot s xs).1 = s + sm (cov xs)
  | [], s, _ => by simp [H5.itot, cov, sm]
  | x :: r, s, h => by
    rw [H5.itot] at h ⊢
    split at h
    · rename_i h1; exact absurd h h1
    · rename_i h1
      rw [if_neg h1, itot_sm r _ h]
      show _ = s + (x.co + sm (cov r))
      omega
theorem cov_nn (xs : List H5.It) : ∀ p ∈ cov xs, 0 ≤ p.c := fun p hp => by
  obtain ⟨x, _, rfl⟩ := List.mem_map.1 hp
  exact (H5.It.co_rng x).1
theorem sm_nn {L : List Pt} (h : ∀ p ∈ L, 0 ≤ p.c) : 0 ≤ sm L := by
  induction L with
  | nil => simp [sm]
  | cons p L ih =>
    have := ih (fun q hq => h q (List.mem_cons_of_mem _ hq))
    have := h p (by simp)
    rw [sm]; omega
theorem cov_part (xs : List H5.It) (k : Nat) (n : Int) : 0 ≤ smI (cov (xs.take k)) n ∧ smI (cov (xs.take k)) n ≤ sm (cov xs) := by
  refine ⟨smI_nn (cov_nn _) n, ?_⟩
  have h1 := smI_le (cov_nn (xs.take k)) n
  have h2 : sm (cov xs) = sm (cov (xs.take k)) + sm (cov (xs.drop k)) := by rw [← sm_app]; unfold cov; rw [← List.map_append, List.take_append_drop]
  have := sm_nn (cov_nn (xs.drop k))
  omega
theorem md_part {a c : Int} (hc : 0 < c) (ha : 0 ≤ a ∧ a ≤ c) : N1.mdS a 1000000 c 1 = a * 1000000 / c ∧ N1.mdE a 1000000 c 1 = 0 := by
  have h1 : 0 ≤ a * 1000000 / c := Int.ediv_nonneg (by omega) (by omega)
  have h2 : a * 1000000 / c ≤ 1000000 := by
    refine Int.ediv_le_of_le_mul hc ?_
    omega
  rw [N1.mdS, N1.mdE, if_neg (by omega), if_neg (by omega), H5.md_floor a 1000000 c hc]
  unfold N1.fitS N1.fitE
  exact ⟨if_pos (by omega), if_pos (by omega)⟩
def GrP (b p E : Int) (w : World) (e : Ending) (w' : World) : Prop := e = .returned (.tuple #[.int .i64 b, .int .i64 p, .int .i64 E]) ∧ Hid (Below w.heap.size w w')
set_option maxHeartbeats 16000000 in
theorem xgreatest (xs : List H5.It) (hx : ∀ y ∈ xs, WI y) (a : Option Addr) (cap : Nat) (w : World) (hp : Rw 9 H5.its w a xs) (hl : xs.length ≤ 1000000) :
    ((H5.itot 0 xs).2 ≠ 0 → Calls Tryz.prog 8 #[.slice a xs.length cap] w (GrP 0 0 (H5.itot 0 xs).2 w)) ∧
    ((H5.itot 0 xs).2 = 0 → sm (cov xs) = 0 → Calls Tryz.prog 8 #[.slice a xs.length cap] w (GrP 0 0 6 w)) ∧
    ((H5.itot 0 xs).2 = 0 → 0 < sm (cov xs) → ∀ b, isB (smI (cov xs)) ((cov xs).map (·.i)) b → Calls Tryz.prog 8 #[.slice a xs.length cap] w (GrP b (smI (cov xs) b * 1000000 / sm (cov xs)) 0 w)) := by
  have hlz : (xs.length : Int) ≤ 1000000 := by omega
  have HT : Hid (Calls Tryz.prog 25 #[.slice a xs.length cap] w (H5.WoP (H5.itot 0 xs).1 (H5.itot 0 xs).2 w)) := H5.xitotal xs hl (fun x h => (hx x h).c) a cap w hp
  refine ⟨fun hE => ?_, fun hE hS => ?_, fun hE hS b hb => ?_⟩
  · have hEz : ((H5.itot 0 xs).2 != 0) = true := by simp [hE]
    generalize (H5.itot 0 xs).1 = T at *
    generalize (H5.itot 0 xs).2 = E at *
    clear hE hp hx
    go_enter Tryz.func8, Tryz.ntmps8
    go_wp2_with (go_at_call 25; refine HT.out.mono ?_; clear HT; rintro e w2 ⟨rfl, HB2⟩; replace HB2 := hid_in HB2)
    go_ret3
    exact ⟨rfl, HB2⟩
  · have h1 := itot_sm xs 0 hE
    rw [hE, h1, hS] at HT
    clear hE hp hx h1 hS
    go_enter Tryz.func8, Tryz.ntmps8
    go_wp2_with (go_at_call 25; refine HT.out.mono ?_; clear HT; rintro e w2 ⟨rfl, HB2⟩; replace HB2 := hid_in HB2)
    go_ret3
    exact ⟨rfl, HB2⟩
  · have h1 := itot_sm xs 0 hE
    have hrg := (H5.itot_rng (xs := xs) (s := 0) (by constructor <;> omega)).1
    rw [hE, h1, Int.zero_add] at HT
    rw [h1, Int.zero_add] at hrg
    have HPt : Hid (∀ k n, 0 ≤ smI (cov (xs.take k)) n ∧ smI (cov (xs.take k)) n ≤ sm (cov xs)) := fun k n => cov_part xs k n
    have HP : Hid (Rw 9 H5.its w a xs) := hp
    have HX : Hid (∀ y ∈ xs, WI y) := hx
    have hrg1 : sm (cov xs) ≤ 9223372036854775807 := hrg.2
    have HBb : Hid (isB (smI (cov xs)) ((cov xs).map (·.i)) b) := hb
    obtain ⟨T, hT⟩ : ∃ T, T = sm (cov xs) := ⟨_, rfl⟩
    have HSm : Hid (∃ p ∈ cov xs, 0 < p.c) := sm_pos hS
    rw [← hT] at HT hS HPt hrg1 ⊢
    have hTz : (T == 0) = false := by simp; omega
    have hmm := @run_makeMap Tryz.prog
    clear hE hp hx h1 hrg hT hb
    go_enter Tryz.func8, Tryz.ntmps8
    go_upto_region 7 with (go_at_call 25; refine HT.out.mono ?_; clear HT; rintro e w2 ⟨rfl, HB2⟩; replace HB2 := hid_in HB2)
    have HG0 : Hid (Gm w (w2.alloc (.map #[] 0)) w2.heap.size (cov (xs.take 0))) := ⟨⟨[], Mp.made w2, fun n => rfl, fun n => by simp [cov], Nat.zero_le _⟩, HB2.out.alloc HB2.out.size _, HB2.out.size⟩
    clear HB2 hmm
    generalize w2.alloc (.map #[] 0) = W2 at *
    generalize w2.heap.size = m at *
    go_wp2_with fail
    go_loopw [28] (fun i wr => ∃ k : Nat, k ≤ xs.length ∧ i = .int .i64 k ∧ Hid (Gm w wr m (cov (xs.take k))))
      (fun i _ => xs.length - (intOf i).toNat)
    case atStart => exact ⟨0, Nat.zero_le _, rfl, HG0.out⟩
    case round =>
      obtain ⟨k, hk, rfl, HR⟩ := hrel
      clear HG0
      by_cases hkn : k < xs.length
      · have hkz : (k : Int) < (xs.length : Int) := by omega
        obtain ⟨blk, off, rfl, hbl, hcs⟩ := HP.out (by omega)
        have hc9 := its_at hcs HR.out.k hbl hkn
        have hwi := HX.out _ (List.getElem_mem hkn)
        have hco := H5.It.co_rng xs[k]
        have h1 := HPt.out (k + 1) xs[k].a.iss
        have h0 := (HPt.out k xs[k].a.iss).1
        rw [cov_take hkn, smI_app] at h1
        simp only [smI, ptx, if_true] at h1
        obtain ⟨wa, hwa⟩ : ∃ wa, wr.alloc (.cells (H5.its xs[k]).toArray 55) = wa := ⟨_, rfl⟩
        have HGa : Hid (Gm w wa m (cov (xs.take k))) := by rw [← hwa]; exact HR.out.below (below_a _ _)
        have hXa : Bx wa wr.heap.size (H5.its xs[k]).toArray 55 := by rw [← hwa]; exact Bx.new _ _ _
        obtain ⟨gx, hgx⟩ : ∃ gx, gx = wr.heap.size := ⟨_, rfl⟩
        rw [← hgx] at hXa
        have HV : Hid (Calls Tryz.prog 16 #[.agg (H5.its xs[k]).toArray] wa.drew fun e w6 => ∃ y, e = .returned y ∧ (y = .int .i64 xs[k].co ∧ w6.cell? ⟨gx, 3, none⟩ = some (.int .i64 xs[k].a.iss) ∧ (Instr.lookup 73 (.map (some m)) (.int .i64 xs[k].a.iss) false).run Tryz.prog w6 = .ok (.int .i64 (smI (cov (xs.take k)) xs[k].a.iss)) w6 ∧
            ∃ W', (Instr.mapUpdate 73 (.map (some m)) (.int .i64 xs[k].a.iss) (.int .i64 (smI (cov (xs.take k)) xs[k].a.iss + xs[k].co))).run Tryz.prog w6 = .ok () W' ∧ Hid (Gm w W' m (cov (xs.take (k + 1)))))) :=
          (H5.xicov xs[k] hwi.c _).mono fun e w6 hh => by
            have hb6 : Below wa.heap.size wa w6 := below_undrew hh.2
            have hg6 := HGa.out.below hb6
            obtain ⟨W', hu, hg7⟩ := hg6.step (q := ptx xs[k]) hwi.n (by rw [cov_len, List.length_take]; omega)
            rw [← cov_take hkn] at hg7
            exact ⟨_, hh.1, rfl, (hXa.below hb6 hXa.lt).cell 3, hg6.look hwi.n, W', hu, hg7⟩
        have lk : (Instr.lookup 73 (.map (some m)) (.int .i64 xs[k].a.iss) false).run Tryz.prog wa.drew = .ok (.int .i64 (smI (cov (xs.take k)) xs[k].a.iss)) wa.drew := (HGa.out.below (below_drew1 wa)).look hwi.n
        have hwr : wrap64 (smI (cov (xs.take k)) xs[k].a.iss + xs[k].co) = smI (cov (xs.take k)) xs[k].a.iss + xs[k].co := by unfold wrap64; omega
        have hwr2 : IntKind.i64.wrap (smI (cov (xs.take k)) xs[k].a.iss + xs[k].co) = smI (cov (xs.take k)) xs[k].a.iss + xs[k].co := by first | exact hwr | (show wrap64 _ = _; exact hwr) | (simp [IntKind.wrap, IntKind.signed, IntKind.bits]; omega)
        generalize smI (cov (xs.take k)) xs[k].a.iss = s at *
        generalize xs[k].co = C at *
        generalize xs[k] = y at *
        obtain ⟨yl, yq, ⟨ai, a1, a2, a3, ac⟩, yp, yc⟩ := y
        simp only [H5.its] at *
        have c0 : wr.cell? ⟨blk, off + k * 9, none⟩ = some (.string yl) := hc9 0 (by omega)
        have c1 : wr.cell? ⟨blk, off + k * 9 + 1, none⟩ = some (.int .i64 yq) := hc9 1 (by omega)
        have c2 : wr.cell? ⟨blk, off + k * 9 + 2, none⟩ = some (.string ai) := hc9 2 (by omega)
        have c3 : wr.cell? ⟨blk, off + k * 9 + 3, none⟩ = some (.int .i64 a1) := hc9 3 (by omega)
        have c4 : wr.cell? ⟨blk, off + k * 9 + 4, none⟩ = some (.int .i64 a2) := hc9 4 (by omega)
        have c5 : wr.cell? ⟨blk, off + k * 9 + 5, none⟩ = some (.int .i64 a3) := hc9 5 (by omega)
        have c6 : wr.cell? ⟨blk, off + k * 9 + 6, none⟩ = some (.string ac) := hc9 6 (by omega)
        have c7 : wr.cell? ⟨blk, off + k * 9 + 7, none⟩ = some (.int .i64 yp) := hc9 7 (by omega)
        have c8 : wr.cell? ⟨blk, off + k * 9 + 8, none⟩ = some (.int .i64 yc) := hc9 8 (by omega)
        have d0 : wa.cell? ⟨gx, 0, none⟩ = some (.string yl) := hXa.cell 0
        have d1 : wa.cell? ⟨gx, 1, none⟩ = some (.int .i64 yq) := hXa.cell 1
        have d2 : wa.cell? ⟨gx, 2, none⟩ = some (.string ai) := hXa.cell 2
        have d3 : wa.cell? ⟨gx, 3, none⟩ = some (.int .i64 a1) := hXa.cell 3
        have d4 : wa.cell? ⟨gx, 4, none⟩ = some (.int .i64 a2) := hXa.cell 4
        have d5 : wa.cell? ⟨gx, 5, none⟩ = some (.int .i64 a3) := hXa.cell 5
        have d6 : wa.cell? ⟨gx, 6, none⟩ = some (.string ac) := hXa.cell 6
        have d7 : wa.cell? ⟨gx, 7, none⟩ = some (.int .i64 yp) := hXa.cell 7
        have d8 : wa.cell? ⟨gx, 8, none⟩ = some (.int .i64 yc) := hXa.cell 8
        have HGX : Hid (gx = wr.heap.size) := hgx
        clear hgx hc9 hcs hXa HGa HR HPt HX HP hwi hbl HSm HBb
        go_upto_region 10 with fail
        rw [← HGX.out]
        try rw [hwa]
        clear hwa c0 c1 c2 c3 c4 c5 c6 c7 c8 HGX
        go_region_law (refine step_call _ (by rfl) 16 #[.agg #[.string yl, .int .i64 yq, .string ai, .int .i64 a1, .int .i64 a2, .int .i64 a3, .string ac, .int .i64 yp, .int .i64 yc]] (by go_simp) _ HV.out ?_; clear HV; rintro v9 w6 ⟨rfl, k3, lk6, W', hu, HZ⟩)
        all_goals
          go_wp2_with fail
          go_roundw
          case rel => exact ⟨k + 1, by omega, by simp, HZ.out⟩
          case measure => simp [intOf]; omega
      · have hkz : ¬ (k : Int) < (xs.length : Int) := by omega
        have HG : Hid (Gm w wr m (cov xs)) := by
          have := HR.out
          rwa [show k = xs.length by omega, List.take_length] at this
        clear HR
        have HK : Hid (Calls Tryz.prog 27 #[.map (some m)] wr fun e w' => e = .returned (.func (.func 48) #[] #[.pointer (some ⟨wr.heap.size, 0, none⟩)]) ∧ w' = wr.alloc (.cells #[.map (some m)] 73)) := xkeysI (some m) wr
        have HS : Hid (Calls Tryz.prog 26 #[.func (.func 48) #[] #[.pointer (some ⟨wr.heap.size, 0, none⟩)]] (wr.alloc (.cells #[.map (some m)] 73)) fun e w' => ∃ (S : List Int) (a : Option Addr) (cap : Nat), e = .returned (.slice a S.length cap) ∧ Hid (S.Pairwise (fun a b => decide (a < b) = true) ∧ (∀ n, n ∈ S ↔ n ∈ (cov xs).map (·.i)) ∧ S.length ≤ 1000000 ∧ Rw 1 ics w' a S ∧ Gm w w' m (cov xs))) := (HG.out.sorted (by rw [cov_len]; exact hl)).mono fun e w' hh => by
          obtain ⟨S, a, cap, he, hz⟩ := hh
          obtain ⟨z1, z2, z3, z4, z5⟩ := hz.out
          exact ⟨S, a, cap, he, z1, z2, by rw [cov_len] at z3; omega, z4, (HG.out.below (below_a _ _)).below z5⟩
        clear HG
        go_upto_region 14 with (first | (go_at_call 27; refine HK.out.mono ?_; clear HK; rintro e w3 ⟨rfl, rfl⟩) | (go_at_call 26; refine HS.out.mono ?_; clear HS; rintro e w4 ⟨S, a4, cap4, rfl, HZ⟩))
        have HZ1 : Hid (S.Pairwise (fun a b => decide (a < b) = true) ∧ (∀ n, n ∈ S ↔ n ∈ (cov xs).map (·.i)) ∧ Rw 1 ics w4 a4 S) := ⟨HZ.out.1, HZ.out.2.1, HZ.out.2.2.2.1⟩
        have HG4 : Hid (Gm w w4 m (cov xs)) := HZ.out.2.2.2.2
        have hSz : (S.length : Int) ≤ 1000000 := by have := HZ.out.2.2.1; omega
        clear HZ
        have HF : Hid (∀ n, 0 ≤ smI (cov xs) n ∧ smI (cov xs) n ≤ T) := fun n => by
          have := HPt.out xs.length n
          rwa [List.take_length] at this
        have HRn : Hid (∀ n ∈ S, Rng n) := fun n hn => by
          obtain ⟨q, hq, rfl⟩ := List.mem_map.1 ((HZ1.out.2.1 n).1 hn)
          obtain ⟨y, hy, rfl⟩ := List.mem_map.1 hq
          exact (HX.out y hy).n
        have HB1 : Hid (∀ b' mo, Bs (smI (cov xs)) S b' mo → b' = b ∧ mo = smI (cov xs) b) := fun b' mo h => by
          rcases h with ⟨h1, h2, h3⟩ | ⟨h1, h2, h3⟩
          · obtain ⟨q, hq, hq0⟩ := HSm.out
            have := h3 q.i ((HZ1.out.2.1 q.i).2 (List.mem_map.2 ⟨q, hq, rfl⟩))
            have := smI_ge (cov_nn xs) hq
            omega
          · have e := isB_det (isB_same h1 (fun n => (HZ1.out.2.1 n).symm)) HBb.out
            subst e
            exact ⟨rfl, h2⟩
        have HMd : Hid (∀ W, Calls Tryz.prog 28 #[.int .i64 (smI (cov xs) b), .int .i64 1000000, .int .i64 T, .int .i64 1] W fun e w' => e = .returned (.tuple #[.int .i64 (smI (cov xs) b * 1000000 / T), .int .i64 0]) ∧ Hid (Below W.heap.size W w')) := fun W => by
          have hm := md_part hS (HF.out b)
          have hf := HF.out b
          refine (N1.xmuldiv (smI (cov xs) b) 1000000 T 1 (by omega) (by omega) (by omega) W (Or.inr N1.xdiv64)).mono fun e w' k => ?_
          obtain ⟨k1, k2⟩ := k
          rw [hm.1, hm.2] at k1
          exact ⟨k1, k2⟩
        clear HPt HSm HBb HX HP
        generalize smI (cov xs) b * 1000000 / T = R at *
        obtain ⟨f, hf⟩ : ∃ f, f = smI (cov xs) := ⟨_, rfl⟩
        have HL : Hid (∀ W n, Below w4.heap.size w4 W → Rng n → (Instr.lookup 73 (.map (some m)) (.int .i64 n) false).run Tryz.prog W = .ok (.int .i64 (f n)) W) := fun W n hb hn => by
          rw [hf]
          exact (HG4.out.below hb).look hn
        have HK4 : Hid (Below w.heap.size w w4) := HG4.out.k
        rw [← hf] at HF HB1 HMd
        clear hf HG4
        go_wp2_with fail
        go_loopw [10, 11, 45] (fun bv mv iv wx => ∃ (k : Nat) (b' mo : Int), k ≤ S.length ∧ bv = .int .i64 b' ∧ mv = .int .i64 mo ∧ iv = .int .i64 k ∧ Hid (Bs f (S.take k) b' mo ∧ (0 ≤ mo ∧ mo ≤ T) ∧ Below w4.heap.size w4 wx))
          (fun _ _ iv _ => S.length - (intOf iv).toNat)
        case atStart => exact ⟨0, 0, 0, Nat.zero_le _, rfl, rfl, rfl, .inl ⟨rfl, rfl, fun m hm => (by simp at hm)⟩, by omega, Below.refl _ _⟩
        case round =>
          obtain ⟨k, b', mo, hk2, rfl, rfl, rfl, HO⟩ := hrel
          by_cases hkn : k < S.length
          · have hkz : (k : Int) < (S.length : Int) := by omega
            obtain ⟨blk, off, rfl, hbl, hcs⟩ := HZ1.out.2.2 (by omega)
            have e0 : wr.cell? ⟨blk, off + k, none⟩ = some (.int .i64 S[k]) := by
              have := hcs k hkn 0 (by omega)
              exact (HO.out.2.2.cell (p := ⟨blk, off + k, none⟩) hbl).trans (by simpa [ics] using this)
            have hn := HRn.out S[k] (List.getElem_mem hkn)
            have lk : (Instr.lookup 73 (.map (some m)) (.int .i64 S[k]) false).run Tryz.prog wr = .ok (.int .i64 (f S[k])) wr := HL.out wr _ HO.out.2.2 hn
            have lk2 : (Instr.lookup 73 (.map (some m)) (.int .i64 S[k]) false).run Tryz.prog wr.drew = .ok (.int .i64 (f S[k])) wr.drew := HL.out wr.drew _ (HO.out.2.2.drew) hn
            have hfn := HF.out S[k]
            have HY : Hid (mo < f S[k] → Bs f (S.take (k + 1)) S[k] (f S[k])) := fun h => by
              rw [List.take_succ_eq_append_getElem hkn]
              exact HO.out.1.yes h HO.out.2.1.1
            have HN2 : Hid (¬ mo < f S[k] → Bs f (S.take (k + 1)) b' mo) := fun h => by
              rw [List.take_succ_eq_append_getElem hkn]
              refine HO.out.1.no h (fun x hx => ?_)
              obtain ⟨i, hi, rfl⟩ := List.getElem_of_mem hx
              rw [List.length_take] at hi
              rw [List.getElem_take]
              exact of_decide_eq_true (List.pairwise_iff_getElem.1 HZ1.out.1 i k (by omega) hkn (by omega))
            have HOB : Hid ((0 ≤ mo ∧ mo ≤ T) ∧ Below w4.heap.size w4 wr) := HO.out.2
            clear hcs hbl HO
            generalize f S[k] = g at *
            generalize S[k] = n at *
            by_cases hg : mo < g
            · have HBs := hid_in (HY.out hg)
              clear HY HN2
              go_upto_region 17 with fail
              go_region_law fail
              all_goals
                go_wp2_with fail
                go_roundw
                case rel => exact ⟨k + 1, n, g, by omega, rfl, rfl, by simp, HBs.out, by omega, HOB.out.2.drew⟩
                case measure => simp [intOf]; omega
            · have HBs := hid_in (HN2.out hg)
              clear HY HN2
              go_wp2_with fail
              go_roundw
              case rel => exact ⟨k + 1, b', mo, by omega, rfl, rfl, by simp, HBs.out, HOB.out.1, HOB.out.2⟩
              case measure => simp [intOf]; omega
          · have hkz : ¬ (k : Int) < (S.length : Int) := by omega
            have hbs := HO.out.1
            rw [show k = S.length by omega, List.take_length] at hbs
            obtain ⟨rfl, rfl⟩ := HB1.out _ _ hbs
            have HBx : Hid (Below w.heap.size w wr) := HK4.out.trans (HO.out.2.2.mono HK4.out.size)
            have HM1 := hid_in (HMd.out wr)
            clear hbs HO HB1 HMd HL HF HRn HZ1
            generalize f b' = g at *
            go_wp2_with (go_at_call 28; refine HM1.out.mono ?_; clear HM1; rintro e w7 ⟨rfl, HB7⟩)
            go_ret3
            exact ⟨rfl, HBx.out.trans (HB7.out.mono HBx.out.size)⟩
end Go.Proofs.YtdfadcbchiogjaaGreat
