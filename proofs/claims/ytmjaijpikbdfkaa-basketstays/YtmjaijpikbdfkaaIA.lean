/- layer 14: IDs of the program: a range over the map, sorted -/
import Derived.Test.YtmjaijpikbdfkaaU
import Derived.WalkKit
import Derived.ProofKit
import Derived.Handy
import Derived.WalkLawsBesides
import Derived.WalkSpells
import Derived.BigQuiet
import Derived.BigCall
import Derived.Deep.QuietTactic
import Derived.Deep.Light
import Derived.Deep.OwnRows
import Derived.Laws.AppendOwnNone
import Derived.Laws.Strings3
import Derived.Laws.RangeAny
import Derived.Deep.RegionWith
import Derived.Lib.BitFns
import Derived.Lib.Walk
import Derived.Lib.Strings
import Derived.Lib.OthersKept
import Derived.Deep.CutBlock
import Derived.Deep.DeepCutAuto
import Derived.Deep.LoopGhost
import Derived.Deep.RegionHeld3
import Derived.Lib.SmallJoins
import Derived.Maps.AppendAt
import Derived.Laws.IdiomStrings
import Derived.Lib.AppendZeros
import Derived.Deep.WholeRow
import Derived.Laws.BitsAllLaws
import Derived.Lib.ConvBytes
import Derived.Deep.RegionLaw
import Derived.Maps.OwnSet
import Derived.Maps.OwnOps
import Derived.Maps.RangeWalk
import Derived.Maps.Ext
import Derived.DeepKeys4
import Derived.Laws.StructEq
import Derived.Deep.MidRow
import Derived.Lib.Bytealg
import Derived.Lib.Overlaps
import Derived.Lib.AppendZerosOnto
import Derived.Laws.MakeOwn
import Derived.Deep.Upon
import Derived.Sort.OwnSortedInts
namespace Go.Proofs.Ytmjaijpikbdfkaa
open Go.RowKit
set_option linter.unusedVariables false
set_option linter.unusedSimpArgs false
set_option maxRecDepth 20000
theorem rcs_ics (xs : List Int) : rcs ics xs = xs.map (Value.int .i64) := by
  induction xs with
  | nil => rfl
  | cons x r ih =>
    show ics x ++ rcs ics r = _
    rw [ih]
    rfl
theorem xsortI {w : World} {B n : Nat} {v : Value} {xs : List Int} (h : w.ownsRow B 3 1 v n (rcs ics xs)) (hn : n = xs.length) (hl : xs.length ≤ 1000000) (hB : B ≤ w.heap.size) :
    Calls Try.prog 47 #[v] w fun e w' => e = .returned (.tuple #[]) ∧ w'.ownsRow B 3 1 v n (rcs ics (xs.mergeSort fun x y => decide (x ≤ y))) ∧ Below B w w' := by
  have hml : (xs.mergeSort fun x y => decide (x ≤ y)).length = xs.length := List.length_mergeSort _
  rcases h.2 with ⟨rfl, h0⟩ | ⟨g, cap, cur, rfl, hg, hb, h1, h2, h3, h4⟩
  · have hx : xs = [] := List.eq_nil_of_length_eq_zero (by omega)
    subst hx
    subst h0
    refine (Try.slices_Sort_int_none none 0 w).mono ?_
    rintro e w' ⟨rfl, rfl⟩
    refine ⟨rfl, ?_, Below.refl _ _⟩
    simpa using h
  · by_cases h0 : n = 0
    · have hx : xs = [] := List.eq_nil_of_length_eq_zero (by omega)
      subst hx
      subst h0
      refine (Try.slices_Sort_int_none (some ⟨g, 0, none⟩) cap w).mono ?_
      rintro e w' ⟨rfl, rfl⟩
      refine ⟨rfl, ?_, Below.refl _ _⟩
      simpa using h
    · have hgl : g < w.heap.size := (Array.getElem?_eq_some_iff.1 hb).1
      rw [rcs_ics, Nat.mul_one] at h4
      have hH := holds_of_blockI (ss := xs) hb (by rw [← hn]; exact h4)
      subst hn
      refine (Try.slices_Sort_int g 0 cap xs w hH hgl (by omega)).mono ?_
      rintro e w' ⟨rfl, k, os, rfl⟩
      refine ⟨rfl, ?_, (Below.refl B w).grown (grownBy_sortedI _) hB (fun j hj => by cases hj; exact hg)⟩
      rw [rcs_ics]
      exact ownsRow_sortedI hml hg hb h1 h2 h3
theorem nd_len {α : Type} : ∀ {C L : List α}, C.Nodup → (∀ x ∈ C, x ∈ L) → C.length ≤ L.length
  | [], _, _, _ => Nat.zero_le _
  | x :: C, L, hn, hs => by
    obtain ⟨s, t, rfl⟩ := List.append_of_mem (hs x (by simp))
    have hn2 := List.nodup_cons.1 hn
    have := nd_len (L := s ++ t) hn2.2 (fun y hy => by
      have h := hs y (by simp [hy])
      simp only [List.mem_append, List.mem_cons] at h ⊢
      rcases h with h | h | h
      · exact .inl h
      · rw [h] at hy; exact absurd hy hn2.1
      · exact .inr h)
    simp only [List.length_append, List.length_cons] at this ⊢
    omega
def IdP (S : List Int) (w : World) (e : Ending) (w' : World) : Prop := ∃ a c, e = .returned (.slice a S.length c) ∧ Hid (w'.ownsRow w.heap.size 3 1 (.slice a S.length c) S.length (rcs ics S) ∧ Below w.heap.size w w')
theorem keys_ids {L : List En} {r : List Bk} (hr : Rel L r) (hs : Srt r) (hp : ∀ e ∈ L, 0 < e.xs.length) {C : List Kv} (hC : C.Perm (L.map kv)) (hn : (C.map Prod.fst).Nodup) : (C.map Prod.fst).mergeSort (fun x y => decide (x ≤ y)) = ids r := by
  refine sorted_ext hn (fun n => ?_) (ids_up hs) (List.mergeSort_perm _ _) ?_
  · rw [ids_mem hs]
    constructor
    · intro h
      obtain ⟨p, hp1, rfl⟩ := List.mem_map.1 h
      obtain ⟨e, he, rfl⟩ := List.mem_map.1 (hC.mem_iff.1 hp1)
      have h1 := hr.of e he
      have h2 := hp e he
      cases hx : e.xs with
      | nil => rw [hx] at h2; exact absurd h2 (Nat.lt_irrefl 0)
      | cons y ys =>
        rw [hx] at h1
        have : y.b ∈ of r e.id := by rw [h1]; simp
        exact ⟨y.b, (of_mem this).1, (of_mem this).2⟩
    · rintro ⟨b, hb, rfl⟩
      obtain ⟨e, he, h1⟩ := hr.all b hb
      exact List.mem_map.2 ⟨kv e, hC.mem_iff.2 (List.mem_map.2 ⟨e, he, rfl⟩), h1⟩
  · have := List.pairwise_mergeSort (le := fun x y : Int => decide (x ≤ y)) (by intro a b c h1 h2; simp at *; omega) (by intro a b; simp; omega) (C.map Prod.fst)
    refine this.imp ?_
    intro a b h
    simpa using h
set_option maxHeartbeats 8000000 in
theorem xids {F : Nat → Prop} {w : World} {p m : Nat} {L : List En} {r : List Bk} (h : Bo F w p m L) (hr : Rel L r) (hs : Srt r) (hL : L.length ≤ 1000000) : Calls Try.prog 30 #[.pointer (some ⟨p, 0, none⟩)] w (IdP (ids r) w) := by
  have HL : Hid (Calls Try.prog 41 #[.pointer (some ⟨p, 0, none⟩)] w (BP false w)) := xlack h.bx
  have cq : w.cell? ⟨p, 0, none⟩ = some (.map (some m)) := h.bx.cell 0
  have hml : m < w.heap.size := h.mp.lt
  obtain ⟨w1, hrg, hrv, hg, hsz⟩ := h.mp.range
  have HR1 : Hid (Rg w1 m w.heap.size (L.map kv) [] (L.map kv).length) := hrv
  have HB1 : Hid (Below w.heap.size w w1) := ⟨hg.os, hg.tape, hg.output, hg.size, fun k hk => hg.block k hk (by simp)⟩
  have HS1 : Hid (w.heap.size + 1 ≤ w1.heap.size) := by unfold Hid; omega
  have HK : Hid (∀ C : List Kv, C.Perm (L.map kv) → (C.map Prod.fst).Nodup → (C.map Prod.fst).mergeSort (fun x y => decide (x ≤ y)) = ids r) := fun C hC hn => keys_ids hr hs (fun e he => (h.en e he).len) hC hn
  generalize ids r = S at *
  clear h hr hs hrv hg hsz
  go_enter Try.func30, Try.ntmps30
  go_wp2_with (go_at_call 41; refine HL.out.mono ?_; clear HL; rintro e w2 ⟨rfl, rfl⟩)
  go_loopw [3] (fun v wr => ∃ (C : List Kv) (cnt : Nat), Hid (Rg wr m w.heap.size (L.map kv) C cnt ∧ wr.ownsRow (w.heap.size + 1) 3 1 v C.length (rcs ics (C.map Prod.fst)) ∧ Below w.heap.size w wr ∧ w.heap.size + 1 ≤ wr.heap.size))
    (fun _ wr => wr.rangeLeft m w.heap.size)
  case atStart => exact ⟨[], _, HR1.out, World.ownsRow_nil _ _ _ _, HB1.out, HS1.out⟩
  case round =>
    obtain ⟨C, cnt, HR⟩ := hrel
    rcases HR.out.1.next 0 with ⟨hC, hn⟩ | ⟨q, w2, cnt', hp, hn, hrv, hlt, hgr, hsz, hen, hnc⟩
    · have hCl : C.length ≤ 1000000 := by rw [hC.length_eq, List.length_map]; exact hL
      have hso := xsortI HR.out.2.1 (by rw [List.length_map]) (by rw [List.length_map]; exact hCl) HR.out.2.2.2
      rw [HK.out C hC HR.out.1.nodup] at hso
      have hSl : S.length = C.length := by rw [← HK.out C hC HR.out.1.nodup, List.length_mergeSort, List.length_map]
      rw [← hSl] at hso
      have HSO : Hid (Calls Try.prog 47 #[u3] wr fun e w' => e = .returned (.tuple #[]) ∧ Hid (IdP S w (.returned u3) w')) := hso.mono fun e w' hh => by
        obtain ⟨h1, h2, h3⟩ := hh
        have h4 := own_mono h2 (show w.heap.size ≤ w.heap.size + 1 by omega)
        obtain ⟨a, c, hv, _⟩ := own_read h4 h4.1
        refine ⟨h1, a, c, by rw [hv], ?_, HR.out.2.2.1.trans (h3.mono (by omega))⟩
        rw [← hv]
        exact h4
      clear hC hCl hso hSl HR
      go_wp2_with (go_at_call 47; refine HSO.out.mono ?_; clear HSO; rintro e w5 ⟨rfl, HF⟩)
      go_ret
      exact HF.out
    · obtain ⟨qk, qv⟩ := q
      have hn' : (Instr.next (.pointer (some ⟨w.heap.size, 0, none⟩)) false 0).run Try.prog wr = .ok (.tuple #[.bool true, .int .i64 qk, qv]) w2 := hn
      have hen' : (Instr.entry (.pointer (some ⟨w.heap.size, 0, none⟩))).run Try.prog w2 = .ok (.tuple #[.int .i64 qk, qv]) w2 := hen
      have ho2 : w2.ownsRow (w.heap.size + 1) 3 1 u3 C.length (rcs ics (C.map Prod.fst)) := own_grown HR.out.2.1 hgr (fun e => by have := (HR.out.2.1.lt w.heap.size e.symm).1; omega)
      have hbw : Below w.heap.size w w2 := HR.out.2.2.1.grown hgr HR.out.2.2.1.size (fun k e => by cases e; exact Nat.le_refl _)
      have hCl : C.length ≤ 1000000 := by
        obtain ⟨_, _, _, _, _, _, h5, h6, _⟩ := HR.out.1
        have h2 := nd_len h6 h5
        rw [List.length_map] at h2
        omega
      obtain ⟨v', w4, hr4, ho4, hg4⟩ := app_gen (T := 3) (Sl := 23) (k := 1) (bytes := 8) Try.underlying23 info3 rfl (by omega) (ics qk) rfl (ics_one qk) ho2 (by have := HR.out.2.2.2; omega) (by omega) (by unfold maxLen; omega)
      have hr4' : (Builtin.append_ #[23, 23] 23 #[u3, .slice (some ⟨w2.heap.size, 0, none⟩) 1 1]).run Try.prog (w2.alloc (.cells #[.int .i64 qk] 3)) = .ok v' w4 := hr4
      have hown : ∀ g, u3.ownBlock = some g → w.heap.size + 1 ≤ g := fun g hg => (ho2.lt g hg).1
      have hrv4 : Rg w4 m w.heap.size (L.map kv) (C ++ [(qk, qv)]) cnt' := (hrv.kept (grown_alloc _ _ none) (by simp) (by simp)).kept hg4 (fun e => by have := hown m e.symm; omega) (fun e => by have := hown _ e.symm; omega)
      have HF : Hid (Rg w4 m w.heap.size (L.map kv) (C ++ [(qk, qv)]) cnt' ∧ w4.ownsRow (w.heap.size + 1) 3 1 v' (C ++ [(qk, qv)]).length (rcs ics ((C ++ [(qk, qv)]).map Prod.fst)) ∧ Below w.heap.size w w4 ∧ w.heap.size + 1 ≤ w4.heap.size) := by
        refine ⟨hrv4, ?_, ?_, ?_⟩
        · rw [List.map_append, List.length_append]
          show w4.ownsRow _ 3 1 v' (C.length + 1) (rcs ics (C.map Prod.fst ++ [qk]))
          rw [rcs_snoc]
          exact ho4
        · exact (hbw.alloc hbw.size _).grown hg4 (by simp; have := hbw.size; omega) (fun j hj => by have := hown j hj; omega)
        · have := hg4.size; have := HR.out.2.2.2; simp at *; omega
      have HM : Hid (w4.rangeLeft m w.heap.size < wr.rangeLeft m w.heap.size) := by unfold Hid; rw [hrv4.left, HR.out.1.left]; exact hlt
      clear hn hen hp hrv hlt hgr hsz hnc ho2 hbw hCl hr4 ho4 hg4 hown hrv4 HR HK HR1 HB1 HS1
      go_wp2_with (at_builtin; refine Lib.wpList_append_run _ rfl _ _ 23 23 rfl _ _ rfl rfl _ w4 hr4' ?_)
      go_roundw
      case rel => exact ⟨_, _, HF.out⟩
      case measure => exact HM.out
end Go.Proofs.Ytmjaijpikbdfkaa
