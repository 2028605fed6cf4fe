/- The journal's parse. -/
import Derived.Test.YteiilifljfagdaaJ
import Derived.WalkKit
import Derived.ProofKit
import Derived.Handy
import Derived.WalkLawsBesides
import Derived.WalkSpells
import Derived.BigQuiet
import Derived.BigCall
import Derived.Deep.QuietTactic
import Derived.Deep.Light
import Derived.Deep.OwnRows
import Derived.Laws.AppendOwnNone
import Derived.Laws.Strings3
import Derived.Laws.RangeAny
import Derived.Deep.RegionWith
import Derived.Lib.BitFns
import Derived.Lib.Walk
import Derived.Lib.Strings
import Derived.Lib.OthersKept
import Derived.Deep.CutBlock
import Derived.Deep.DeepCutAuto
import Derived.Deep.LoopGhost
import Derived.Deep.RegionHeld3
import Derived.Lib.SmallJoins
import Derived.Maps.AppendAt
import Derived.Laws.IdiomStrings
import Derived.Lib.AppendZeros
import Derived.Deep.WholeRow
import Derived.Laws.BitsAllLaws
import Derived.Lib.ConvBytes
namespace Go.Proofs.Yteiilifljfagdaa
open Go.RowKit
set_option linter.unusedVariables false
set_option linter.unusedSimpArgs false
def prs : List (List UInt8) → Option (Nat × Nat × List UInt8 × List (List UInt8))
  | [] => none
  | h :: r => if h.length ≠ 21 then none else if numb h = 0 ∨ r.length < numb (h.drop 14) then none else if pcs (r.take (numb (h.drop 14))) = false then none else some (numb h, numb (h.drop 7), (r.take (numb (h.drop 14))).flatten, r.drop (numb (h.drop 14)))
theorem look_prs (s : List UInt8) : look s = (prs (rdA s).1).map fun x => ⟨x.1, x.2.1, x.2.2.1, x.2.2.2, (rdA s).2.1⟩ := by
  unfold look
  cases (rdA s).1 with
  | nil => rfl
  | cons h r =>
    show _ = Option.map _ (if h.length ≠ 21 then none else if numb h = 0 ∨ r.length < numb (h.drop 14) then none else if pcs (r.take (numb (h.drop 14))) = false then none else some (numb h, numb (h.drop 7), (r.take (numb (h.drop 14))).flatten, r.drop (numb (h.drop 14))))
    simp only
    by_cases h1 : h.length ≠ 21
    · rw [if_pos h1, if_pos h1]; rfl
    · rw [if_neg h1, if_neg h1]
      by_cases h2 : numb h = 0 ∨ r.length < numb (h.drop 14)
      · rw [if_pos h2, if_pos h2]; rfl
      · rw [if_neg h2, if_neg h2]
        by_cases h3 : pcs (r.take (numb (h.drop 14))) = false
        · rw [if_pos h3, if_pos h3]; rfl
        · rw [if_neg h3, if_neg h3]; rfl
/-- what parse hands back -/
def PrP (l : List (List UInt8)) (w : World) (e : Ending) (w' : World) : Prop :=
  (prs l = none ∧ e = .returned (.tuple #[.agg #[.int .i64 0, .int .i64 0, .string ⟨#[]⟩, .slice none 0 0], .bool false]) ∧ Below w.heap.size w w') ∨
  (∃ (g a : Nat) (s : ByteArray) (v : Value) (ys : List ByteArray), prs l = some (g, a, s.data.toList, ls ys) ∧ e = .returned (.tuple #[.agg #[.int .i64 g, .int .i64 a, .string s, v], .bool true]) ∧ w'.ownsRow w.heap.size 9 1 v ys.length (scells ys) ∧ Below w.heap.size w w')
theorem PrP.no {l : List (List UInt8)} {w w' : World} (h : prs l = none) (hb : Below w.heap.size w w') : PrP l w (.returned (.tuple #[.agg #[.int .i64 0, .int .i64 0, .string ⟨#[]⟩, .slice none 0 0], .bool false])) w' := .inl ⟨h, rfl, hb⟩
theorem Strs.sub {w : World} {b off : Nat} {l : List ByteArray} (h : ∀ j (hj : j < l.length), w.cell? ⟨b, off + j, none⟩ = some (.string l[j])) (hb : b < w.heap.size) (h1 : tot l + 12 * l.length ≤ 1099511627776) : Strs w (some ⟨b, off, none⟩) l := by
  refine ⟨fun _ => ⟨b, off, rfl, hb, h⟩, by omega, fun s hs => ?_⟩
  obtain ⟨i, hi, rfl⟩ := List.getElem_of_mem hs
  have e2 := tot_take hi
  have e3 := tot_le l (i + 1)
  omega
theorem ls_takeN (l : List ByteArray) (n : Nat) : ls (l.take n) = (ls l).take n := List.map_take ..
theorem ls_dropN (l : List ByteArray) (n : Nat) : ls (l.drop n) = (ls l).drop n := List.map_drop ..
theorem tot_drop (l : List ByteArray) (n : Nat) : tot (l.drop n) ≤ tot l := by
  have := tot_app (l.take n) (l.drop n)
  rw [List.take_append_drop] at this
  omega
theorem four_set {w : World} {q T : Nat} {x0 x1 x2 x3 : Value} (h : w.heap[q]? = some (.cells #[x0, x1, x2, x3] T (0, 0))) (y0 y1 y2 y3 : Value) : ((((w.setCell ⟨q, 0, none⟩ y0).setCell ⟨q, 1, none⟩ y1).setCell ⟨q, 2, none⟩ y2).setCell ⟨q, 3, none⟩ y3).heap[q]? = some (.cells #[y0, y1, y2, y3] T (0, 0)) := by
  rw [set_blk (set_blk (set_blk (set_blk h _) _) _) _]
  rfl
theorem four_below {B : Nat} {w w2 : World} (h : Below B w w2) {q : Nat} (hq : B ≤ q) (y0 y1 y2 y3 : Value) : Below B w ((((w2.setCell ⟨q, 0, none⟩ y0).setCell ⟨q, 1, none⟩ y1).setCell ⟨q, 2, none⟩ y2).setCell ⟨q, 3, none⟩ y3) :=
  (((h.setCell hq y0).setCell hq y1).setCell hq y2).setCell hq y3
theorem four_other {w : World} {q g : Nat} (h : g ≠ q) (y0 y1 y2 y3 : Value) : ((((w.setCell ⟨q, 0, none⟩ y0).setCell ⟨q, 1, none⟩ y1).setCell ⟨q, 2, none⟩ y2).setCell ⟨q, 3, none⟩ y3).heap[g]? = w.heap[g]? := by
  rw [Below.heap_setCell _ _ _ _ h, Below.heap_setCell _ _ _ _ h, Below.heap_setCell _ _ _ _ h, Below.heap_setCell _ _ _ _ h]
theorem own_base {w : World} {B B2 e size n : Nat} {v : Value} {xs : List Value} (h : w.ownsRow B e size v n xs) (hb : B2 ≤ B) : w.ownsRow B2 e size v n xs := by
  refine ⟨h.1, ?_⟩
  rcases h.2 with z | ⟨g, cap, cur, hv, hg, z⟩
  · exact .inl z
  · exact .inr ⟨g, cap, cur, hv, Nat.le_trans hb hg, z⟩
theorem own_blk {w w' : World} {B e size n : Nat} {v : Value} {xs : List Value} (h : w.ownsRow B e size v n xs) (hk : ∀ g, v.ownBlock = some g → w'.heap[g]? = w.heap[g]?) : w'.ownsRow B e size v n xs := by
  refine ⟨h.1, ?_⟩
  rcases h.2 with hn | ⟨g, cap, cur, rfl, hb, hg, rest⟩
  · exact .inl hn
  · exact .inr ⟨g, cap, cur, rfl, hb, (hk g rfl).trans hg, rest⟩
set_option maxHeartbeats 4000000 in
set_option maxRecDepth 100000 in
theorem xparse (l : List ByteArray) (a : Option Addr) (cap : Nat) (w : World) (h : Strs w a l) (hcp : l.length ≤ cap) (h2 : tot l + 12 * l.length ≤ 1048576) : Calls Try.prog 73 #[.slice a l.length cap] w (PrP (ls l) w) := by
  have hlz : (l.length : Int) ≤ 1099511627776 := by omega
  have HB0 : Hid (Below w.heap.size w (w.alloc (.cells #[.int .i64 0, .int .i64 0, .string ⟨#[]⟩, .slice none 0 0] 71))) := below_new w _
  have HS : Hid (Strs w a l) := h
  clear h
  cases l with
  | nil =>
    go_enter Try.func73, Try.ntmps73
    go_wp2_with fail
    go_returns
    exact PrP.no rfl HB0.out
  | cons f r =>
    obtain ⟨b, off, rfl, hbl, hce⟩ := HS.out.at_ (by simp)
    have hc0 : w.cell? ⟨b, off, none⟩ = some (.string f) := hce 0 (by simp)
    have HCE : Hid (∀ j (hj : j < r.length), w.cell? ⟨b, off + 1 + j, none⟩ = some (.string r[j])) := fun j hj => by
      have := hce (j + 1) (by simp; omega)
      rw [show off + 1 + j = off + (j + 1) by omega]
      exact this
    clear hce
    obtain ⟨n, hn⟩ : ∃ n, n = r.length + 1 := ⟨_, rfl⟩
    have hl1 : (f :: r).length = n := hn.symm
    rw [hl1] at hcp hlz ⊢
    have HN1 : Hid (n = r.length + 1) := hn
    have n0 : ((n : Int) == 0) = false := by rw [beq_eq_false_iff_ne]; omega
    have n1 : (1 : Int) ≤ (n : Int) := by omega
    have n2 : (0 : Int) < (n : Int) := by omega
    clear hl1 hn
    by_cases c1 : f.size = 21
    · have c2 : ((f.size : Int) != 21) = false := by rw [bne_eq_false_iff_eq]; omega
      have HFL : Hid (f.data.toList.length = 21) := c1
      have d7 := drop_all f 7
      have d14 := drop_all f 14
      have z7 := ext_len f 7 f.size (Nat.le_refl _)
      have z14 := ext_len f 14 f.size (Nat.le_refl _)
      have f7 : (7 : Int) ≤ (f.size : Int) := by omega
      have f14 : (14 : Int) ≤ (f.size : Int) := by omega
      have p1 : Hid (7 ≤ f.size) := by unfold Hid; omega
      have p2 : Hid (7 ≤ (f.extract 7 f.size).size) := by unfold Hid; omega
      have p3 : Hid (7 ≤ (f.extract 14 f.size).size) := by unfold Hid; omega
      have NQ : Hid (∀ (s : ByteArray) (h : 7 ≤ s.size) (w : World), Calls Try.prog 84 #[.string s] w fun e w' => e = .returned (.int .i64 (numb s.data.toList)) ∧ w' = w) := fun s h w => (xnumb s h w).mono fun _ _ h => ⟨h.1, h.2.symm⟩
      have b1 := numb_lt f.data.toList
      have b2 := numb_lt (f.extract 7 f.size).data.toList
      have b3 := numb_lt (f.extract 14 f.size).data.toList
      have HP : Hid (prs (ls (f :: r)) = if numb f.data.toList = 0 ∨ (ls r).length < numb (f.data.toList.drop 14) then none else if pcs ((ls r).take (numb (f.data.toList.drop 14))) = false then none else some (numb f.data.toList, numb (f.data.toList.drop 7), ((ls r).take (numb (f.data.toList.drop 14))).flatten, (ls r).drop (numb (f.data.toList.drop 14)))) := if_neg (by rw [Decidable.not_not]; exact HFL.out)
      rw [← d7, ← d14, ls_len] at HP
      have HT : Hid (tot r + 12 * r.length ≤ 1048576) := by
        have : tot (f :: r) = f.size + tot r := rfl
        have e2 := HN1.out
        unfold Hid
        rw [this] at h2
        simp only [List.length_cons] at h2
        omega
      have hn1 : n - 1 = r.length := by have := HN1.out; omega
      clear c1 d7 d14 z7 z14 h2
      by_cases hc1 : cap = 1
      · have hr : r = [] := List.length_eq_zero_iff.1 (by have := HN1.out; omega)
        subst hr
        subst hc1
        obtain rfl : n = 1 := by have := HN1.out; simpa using this
        clear HN1 hn1 n0 n1 n2 HCE HT hcp hlz
        go_enter Try.func73, Try.ntmps73
        go_wp2_with fail
        go_quiet (fail)
        generalize nq = m1 at *
        go_wp2_with fail
        go_quiet ((go_at_call 84; refine (NQ.out _ (by first | exact p1.out | exact p2.out | exact p3.out) _).mono ?_; rintro e1 w9 ⟨rfl, rfl⟩; exact ⟨rfl, _, rfl⟩))
        generalize numb f.data.toList = G at *
        generalize numb (f.extract 7 f.size).data.toList = A at *
        generalize numb (f.extract 14 f.size).data.toList = N at *
        have B2 : Hid (Below w.heap.size w (((w.alloc (.cells #[.int .i64 0, .int .i64 0, .string ⟨#[]⟩, .slice none 0 0] 71)).drewN m1).drewN nq)) := bdrew (bdrew HB0.out m1) nq
        have hblk : (((w.alloc (.cells #[.int .i64 0, .int .i64 0, .string ⟨#[]⟩, .slice none 0 0] 71)).drewN m1).drewN nq).heap[w.heap.size]? = some (.cells #[.int .i64 0, .int .i64 0, .string ⟨#[]⟩, .slice none 0 0] 71 (0, 0)) := heap_alloc_new w _
        generalize ((w.alloc (.cells #[.int .i64 0, .int .i64 0, .string ⟨#[]⟩, .slice none 0 0] 71)).drewN m1).drewN nq = w2 at *
        have HBK : Hid (w2.heap[w.heap.size]? = some (.cells #[.int .i64 0, .int .i64 0, .string ⟨#[]⟩, .slice none 0 0] 71 (0, 0))) := hblk
        have k0 : w2.cell? ⟨w.heap.size, 0, none⟩ = some (.int .i64 0) := cell_of_row w2 _ 0 _ 71 (0, 0) hblk
        have k1 : w2.cell? ⟨w.heap.size, 1, none⟩ = some (.int .i64 0) := cell_of_row w2 _ 1 _ 71 (0, 0) hblk
        have k2 : w2.cell? ⟨w.heap.size, 2, none⟩ = some (.string ⟨#[]⟩) := cell_of_row w2 _ 2 _ 71 (0, 0) hblk
        have k3 : w2.cell? ⟨w.heap.size, 3, none⟩ = some (.slice none 0 0) := cell_of_row w2 _ 3 _ 71 (0, 0) hblk
        have hfz : ∀ j, w2.frozen? ⟨w.heap.size, j, none⟩ = false := fun j => by simp [World.frozen?, hblk]
        have z0 := hfz 0
        have z1 := hfz 1
        have z2 := hfz 2
        have z3 := hfz 3
        clear hblk hfz HB0
        by_cases g0 : G = 0
        · have g1 : (G : Int) < 1 := by omega
          have HN : Hid (prs (ls [f]) = none) := by unfold Hid; rw [HP.out, if_pos (.inl g0)]
          go_wp2_with fail
          have c4 := four_set HBK.out (.int .i64 0) (.int .i64 0) (.string ⟨#[]⟩) (.slice none 0 0)
          have HB4 : Hid _ := four_below B2.out (Nat.le_refl _) (.int .i64 0) (.int .i64 0) (.string ⟨#[]⟩) (.slice none 0 0)
          generalize (((w2.setCell ⟨w.heap.size, 0, none⟩ (.int .i64 0)).setCell ⟨w.heap.size, 1, none⟩ (.int .i64 0)).setCell ⟨w.heap.size, 2, none⟩ (.string ⟨#[]⟩)).setCell ⟨w.heap.size, 3, none⟩ (.slice none 0 0) = w4 at *
          have y0 : w4.cell? ⟨w.heap.size, 0, none⟩ = some (.int .i64 0) := cell_of_row w4 _ 0 _ 71 (0, 0) c4
          have y1 : w4.cell? ⟨w.heap.size, 1, none⟩ = some (.int .i64 0) := cell_of_row w4 _ 1 _ 71 (0, 0) c4
          have y2 : w4.cell? ⟨w.heap.size, 2, none⟩ = some (.string ⟨#[]⟩) := cell_of_row w4 _ 2 _ 71 (0, 0) c4
          have y3 : w4.cell? ⟨w.heap.size, 3, none⟩ = some (.slice none 0 0) := cell_of_row w4 _ 3 _ 71 (0, 0) c4
          refine bodyPost_ret (by simp [results, Try.results73, go_sem, y0, y1, y2, y3]; try rfl) rfl ?_
          exact PrP.no HN.out HB4.out
        · have g1 : ¬ (G : Int) < 1 := by omega
          by_cases r0 : 0 < N
          · have r1 : (0 : Int) < (N : Int) := by omega
            have HN : Hid (prs (ls [f]) = none) := by unfold Hid; rw [HP.out, if_pos (.inr r0)]
            go_wp2_with fail
            have c4 := four_set HBK.out (.int .i64 0) (.int .i64 0) (.string ⟨#[]⟩) (.slice none 0 0)
            have HB4 : Hid _ := four_below B2.out (Nat.le_refl _) (.int .i64 0) (.int .i64 0) (.string ⟨#[]⟩) (.slice none 0 0)
            generalize (((w2.setCell ⟨w.heap.size, 0, none⟩ (.int .i64 0)).setCell ⟨w.heap.size, 1, none⟩ (.int .i64 0)).setCell ⟨w.heap.size, 2, none⟩ (.string ⟨#[]⟩)).setCell ⟨w.heap.size, 3, none⟩ (.slice none 0 0) = w4 at *
            have y0 : w4.cell? ⟨w.heap.size, 0, none⟩ = some (.int .i64 0) := cell_of_row w4 _ 0 _ 71 (0, 0) c4
            have y1 : w4.cell? ⟨w.heap.size, 1, none⟩ = some (.int .i64 0) := cell_of_row w4 _ 1 _ 71 (0, 0) c4
            have y2 : w4.cell? ⟨w.heap.size, 2, none⟩ = some (.string ⟨#[]⟩) := cell_of_row w4 _ 2 _ 71 (0, 0) c4
            have y3 : w4.cell? ⟨w.heap.size, 3, none⟩ = some (.slice none 0 0) := cell_of_row w4 _ 3 _ 71 (0, 0) c4
            refine bodyPost_ret (by simp [results, Try.results73, go_sem, y0, y1, y2, y3]; try rfl) rfl ?_
            exact PrP.no HN.out HB4.out
          · have r1 : ¬ (0 : Int) < (N : Int) := by omega
            obtain rfl : N = 0 := by omega
            have HP3 : Hid (prs (ls [f]) = some (G, A, [], [])) := by unfold Hid; rw [HP.out, if_neg (by simp; omega)]; rfl
            have HJ : Hid (Calls Try.prog 85 #[.slice (some ⟨b, off, none⟩) 0 0] w2 fun e w' => e = .returned (.tuple #[.string ⟨#[]⟩, .bool true]) ∧ Below w2.heap.size w2 w') := xjoin [] (some ⟨b, off, none⟩) 0 w2 ⟨fun h => absurd h (by simp), by simp, fun s hs => by cases hs⟩ (by simp) (by simp) (by show 0 ≤ _; omega)
            clear HP r0 r1
            go_wp2_with fail
            refine HJ.out.mono ?_
            rintro e w3 ⟨rfl, hb3⟩
            have B3 : Hid (Below w.heap.size w w3) := B2.out.trans (hb3.mono B2.out.size)
            have hlt : w.heap.size < w2.heap.size := (Array.getElem?_eq_some_iff.1 HBK.out).1
            have hlt3 : Hid (w.heap.size < w3.heap.size) := by have := hb3.size; unfold Hid; omega
            have HBK3 : Hid (w3.heap[w.heap.size]? = some (.cells #[.int .i64 0, .int .i64 0, .string ⟨#[]⟩, .slice none 0 0] 71 (0, 0))) := (hb3.block _ hlt).trans HBK.out
            clear hb3 hlt HJ k0 k1 k2 k3 z0 z1 z2 z3 HBK
            have HCL : Hid (∀ a c, Calls Try.prog 86 #[.slice (some a) 0 c] w3 fun e w' => ∃ v', e = .returned v' ∧ w'.ownsRow w3.heap.size 9 1 v' ([] : List ByteArray).length (scells []) ∧ v' ≠ .slice none 0 0 ∧ Below w3.heap.size w3 w') := fun a c => Try.slices_Clone_string_zero a c w3
            go_wp2_with fail
            refine (HCL.out _ _).mono ?_
            rintro e w4 ⟨v4, rfl, ho4, hn4, hb4⟩
            obtain ⟨x4, c4, rfl⟩ := own_slice ho4
            have B4 : Hid (Below w.heap.size w w4) := B3.out.trans (hb4.mono B3.out.size)
            have hbk4 : w4.heap[w.heap.size]? = some (.cells #[.int .i64 0, .int .i64 0, .string ⟨#[]⟩, .slice none 0 0] 71 (0, 0)) := (hb4.block _ (by have := hlt3.out; omega)).trans HBK3.out
            have HBK4 : Hid (w4.heap[w.heap.size]? = some (.cells #[.int .i64 0, .int .i64 0, .string ⟨#[]⟩, .slice none 0 0] 71 (0, 0))) := hbk4
            have j0 : w4.cell? ⟨w.heap.size, 0, none⟩ = some (.int .i64 0) := cell_of_row w4 _ 0 _ 71 (0, 0) hbk4
            have j1 : w4.cell? ⟨w.heap.size, 1, none⟩ = some (.int .i64 0) := cell_of_row w4 _ 1 _ 71 (0, 0) hbk4
            have j2 : w4.cell? ⟨w.heap.size, 2, none⟩ = some (.string ⟨#[]⟩) := cell_of_row w4 _ 2 _ 71 (0, 0) hbk4
            have j3 : w4.cell? ⟨w.heap.size, 3, none⟩ = some (.slice none 0 0) := cell_of_row w4 _ 3 _ 71 (0, 0) hbk4
            have hfz4 : ∀ j, w4.frozen? ⟨w.heap.size, j, none⟩ = false := fun j => by simp [World.frozen?, hbk4]
            have i0 := hfz4 0
            have i1 := hfz4 1
            have i2 := hfz4 2
            have i3 := hfz4 3
            have HO4 : Hid (w4.ownsRow w3.heap.size 9 1 (.slice x4 ([] : List ByteArray).length c4) ([] : List ByteArray).length (scells (([] : List ByteArray)))) := ho4
            clear hbk4 hfz4 hb4 ho4 hn4
            generalize hLN : ([] : List ByteArray).length = LN at *
            have HLN : Hid (([] : List ByteArray).length = LN) := hLN
            clear hLN
            go_wp2_with fail
            have c9 := four_set HBK4.out (.int .i64 G) (.int .i64 A) (.string ⟨#[]⟩) (.slice x4 LN c4)
            have HB9 : Hid _ := four_below B4.out (Nat.le_refl _) (.int .i64 G) (.int .i64 A) (.string ⟨#[]⟩) (.slice x4 LN c4)
            have HO9 : Hid _ := own_blk (w' := (((w4.setCell ⟨w.heap.size, 0, none⟩ (.int .i64 G)).setCell ⟨w.heap.size, 1, none⟩ (.int .i64 A)).setCell ⟨w.heap.size, 2, none⟩ (.string ⟨#[]⟩)).setCell ⟨w.heap.size, 3, none⟩ (.slice x4 LN c4)) HO4.out (fun g hg => four_other (by have := (HO4.out.lt g hg).1; have := hlt3.out; omega) _ _ _ _)
            generalize (((w4.setCell ⟨w.heap.size, 0, none⟩ (.int .i64 G)).setCell ⟨w.heap.size, 1, none⟩ (.int .i64 A)).setCell ⟨w.heap.size, 2, none⟩ (.string ⟨#[]⟩)).setCell ⟨w.heap.size, 3, none⟩ (.slice x4 LN c4) = w9 at *
            have y0 : w9.cell? ⟨w.heap.size, 0, none⟩ = some (.int .i64 G) := cell_of_row w9 _ 0 _ 71 (0, 0) c9
            have y1 : w9.cell? ⟨w.heap.size, 1, none⟩ = some (.int .i64 A) := cell_of_row w9 _ 1 _ 71 (0, 0) c9
            have y2 : w9.cell? ⟨w.heap.size, 2, none⟩ = some (.string ⟨#[]⟩) := cell_of_row w9 _ 2 _ 71 (0, 0) c9
            have y3 : w9.cell? ⟨w.heap.size, 3, none⟩ = some (.slice x4 LN c4) := cell_of_row w9 _ 3 _ 71 (0, 0) c9
            refine bodyPost_ret (by simp [results, Try.results73, go_sem, y0, y1, y2, y3]; try rfl) rfl ?_
            exact .inr ⟨G, A, ⟨#[]⟩, _, ([] : List ByteArray), by rw [HP3.out]; rfl, rfl, by rw [HLN.out]; exact own_base HO9.out (by have := hlt3.out; omega), HB9.out⟩
      · have hc2 : ¬ cap - 1 = 0 := by have := HN1.out; omega
        go_enter Try.func73, Try.ntmps73
        go_wp2_with fail
        go_quiet (fail)
        generalize nq = m1 at *
        go_wp2_with fail
        go_quiet ((go_at_call 84; refine (NQ.out _ (by first | exact p1.out | exact p2.out | exact p3.out) _).mono ?_; rintro e1 w9 ⟨rfl, rfl⟩; exact ⟨rfl, _, rfl⟩))
        generalize numb f.data.toList = G at *
        generalize numb (f.extract 7 f.size).data.toList = A at *
        generalize numb (f.extract 14 f.size).data.toList = N at *
        have B2 : Hid (Below w.heap.size w (((w.alloc (.cells #[.int .i64 0, .int .i64 0, .string ⟨#[]⟩, .slice none 0 0] 71)).drewN m1).drewN nq)) := bdrew (bdrew HB0.out m1) nq
        have hblk : (((w.alloc (.cells #[.int .i64 0, .int .i64 0, .string ⟨#[]⟩, .slice none 0 0] 71)).drewN m1).drewN nq).heap[w.heap.size]? = some (.cells #[.int .i64 0, .int .i64 0, .string ⟨#[]⟩, .slice none 0 0] 71 (0, 0)) := heap_alloc_new w _
        generalize ((w.alloc (.cells #[.int .i64 0, .int .i64 0, .string ⟨#[]⟩, .slice none 0 0] 71)).drewN m1).drewN nq = w2 at *
        have HBK : Hid (w2.heap[w.heap.size]? = some (.cells #[.int .i64 0, .int .i64 0, .string ⟨#[]⟩, .slice none 0 0] 71 (0, 0))) := hblk
        have HC2 : Hid (∀ j (hj : j < r.length), w2.cell? ⟨b, off + 1 + j, none⟩ = some (.string r[j])) := fun j hj => (B2.out.cell (by exact hbl)).trans (HCE.out j hj)
        have k0 : w2.cell? ⟨w.heap.size, 0, none⟩ = some (.int .i64 0) := cell_of_row w2 _ 0 _ 71 (0, 0) hblk
        have k1 : w2.cell? ⟨w.heap.size, 1, none⟩ = some (.int .i64 0) := cell_of_row w2 _ 1 _ 71 (0, 0) hblk
        have k2 : w2.cell? ⟨w.heap.size, 2, none⟩ = some (.string ⟨#[]⟩) := cell_of_row w2 _ 2 _ 71 (0, 0) hblk
        have k3 : w2.cell? ⟨w.heap.size, 3, none⟩ = some (.slice none 0 0) := cell_of_row w2 _ 3 _ 71 (0, 0) hblk
        have hfz : ∀ j, w2.frozen? ⟨w.heap.size, j, none⟩ = false := fun j => by simp [World.frozen?, hblk]
        have z0 := hfz 0
        have z1 := hfz 1
        have z2 := hfz 2
        have z3 := hfz 3
        clear hblk hfz HB0 HCE
        by_cases g0 : G = 0
        · have g1 : (G : Int) < 1 := by omega
          have HN : Hid (prs (ls (f :: r)) = none) := by unfold Hid; rw [HP.out, if_pos (.inl g0)]
          go_wp2_with fail
          have c4 := four_set HBK.out (.int .i64 0) (.int .i64 0) (.string ⟨#[]⟩) (.slice none 0 0)
          have HB4 : Hid _ := four_below B2.out (Nat.le_refl _) (.int .i64 0) (.int .i64 0) (.string ⟨#[]⟩) (.slice none 0 0)
          generalize (((w2.setCell ⟨w.heap.size, 0, none⟩ (.int .i64 0)).setCell ⟨w.heap.size, 1, none⟩ (.int .i64 0)).setCell ⟨w.heap.size, 2, none⟩ (.string ⟨#[]⟩)).setCell ⟨w.heap.size, 3, none⟩ (.slice none 0 0) = w4 at *
          have y0 : w4.cell? ⟨w.heap.size, 0, none⟩ = some (.int .i64 0) := cell_of_row w4 _ 0 _ 71 (0, 0) c4
          have y1 : w4.cell? ⟨w.heap.size, 1, none⟩ = some (.int .i64 0) := cell_of_row w4 _ 1 _ 71 (0, 0) c4
          have y2 : w4.cell? ⟨w.heap.size, 2, none⟩ = some (.string ⟨#[]⟩) := cell_of_row w4 _ 2 _ 71 (0, 0) c4
          have y3 : w4.cell? ⟨w.heap.size, 3, none⟩ = some (.slice none 0 0) := cell_of_row w4 _ 3 _ 71 (0, 0) c4
          refine bodyPost_ret (by simp [results, Try.results73, go_sem, y0, y1, y2, y3]; try rfl) rfl ?_
          exact PrP.no HN.out HB4.out
        · have g1 : ¬ (G : Int) < 1 := by omega
          by_cases r0 : r.length < N
          · have r1 : (r.length : Int) < (N : Int) := by omega
            have HN : Hid (prs (ls (f :: r)) = none) := by unfold Hid; rw [HP.out, if_pos (.inr r0)]
            go_wp2_with fail
            have c4 := four_set HBK.out (.int .i64 0) (.int .i64 0) (.string ⟨#[]⟩) (.slice none 0 0)
            have HB4 : Hid _ := four_below B2.out (Nat.le_refl _) (.int .i64 0) (.int .i64 0) (.string ⟨#[]⟩) (.slice none 0 0)
            generalize (((w2.setCell ⟨w.heap.size, 0, none⟩ (.int .i64 0)).setCell ⟨w.heap.size, 1, none⟩ (.int .i64 0)).setCell ⟨w.heap.size, 2, none⟩ (.string ⟨#[]⟩)).setCell ⟨w.heap.size, 3, none⟩ (.slice none 0 0) = w4 at *
            have y0 : w4.cell? ⟨w.heap.size, 0, none⟩ = some (.int .i64 0) := cell_of_row w4 _ 0 _ 71 (0, 0) c4
            have y1 : w4.cell? ⟨w.heap.size, 1, none⟩ = some (.int .i64 0) := cell_of_row w4 _ 1 _ 71 (0, 0) c4
            have y2 : w4.cell? ⟨w.heap.size, 2, none⟩ = some (.string ⟨#[]⟩) := cell_of_row w4 _ 2 _ 71 (0, 0) c4
            have y3 : w4.cell? ⟨w.heap.size, 3, none⟩ = some (.slice none 0 0) := cell_of_row w4 _ 3 _ 71 (0, 0) c4
            refine bodyPost_ret (by simp [results, Try.results73, go_sem, y0, y1, y2, y3]; try rfl) rfl ?_
            exact PrP.no HN.out HB4.out
          · have r1 : ¬ (r.length : Int) < (N : Int) := by omega
            have r2 : (N : Int) ≤ (r.length : Int) := by omega
            have HP2 : Hid (prs (ls (f :: r)) = if pcs ((ls r).take N) = false then none else some (G, A, ((ls r).take N).flatten, (ls r).drop N)) := by unfold Hid; rw [HP.out, if_neg (by omega)]
            have eN : (r.take N).length = N := by rw [List.length_take]; omega
            have HS2 : Hid (Strs w2 (some ⟨b, off + 1, none⟩) (r.take N)) := by
              refine Strs.sub (fun j hj => ?_) (by have := B2.out.size; omega) ?_
              · rw [List.getElem_take]; exact HC2.out j (by omega)
              · have := tot_le r N
                have e2 := HT.out
                omega
            have HJ : Hid (Calls Try.prog 85 #[.slice (some ⟨b, off + 1, none⟩) N (cap - 1)] w2 (JnP ((ls r).take N) w2)) := by
              have := xjoin (r.take N) (some ⟨b, off + 1, none⟩) (cap - 1) w2 HS2.out (by omega) (by have := HT.out; omega) (by have := tot_le r N; have e2 := HT.out; omega)
              rw [eN, ls_takeN] at this
              exact this
            have hNcap : (N : Int) ≤ ((cap - 1 : Nat) : Int) := by omega
            clear eN HS2 HP
            cases hp : pcs ((ls r).take N) with
            | false =>
              have HN : Hid (prs (ls (f :: r)) = none) := by unfold Hid; rw [HP2.out, hp, if_pos rfl]
              unfold JnP at HJ
              rw [hp, if_neg (by exact fun q => by cases q)] at HJ
              clear hp
              go_wp2_with fail
              refine HJ.out.mono ?_
              rintro e w3 ⟨rfl, hb3⟩
              have B3 : Hid (Below w.heap.size w w3) := B2.out.trans (hb3.mono B2.out.size)
              have hlt : w.heap.size < w2.heap.size := (Array.getElem?_eq_some_iff.1 HBK.out).1
              have hbk3 : w3.heap[w.heap.size]? = some (.cells #[.int .i64 0, .int .i64 0, .string ⟨#[]⟩, .slice none 0 0] 71 (0, 0)) := (hb3.block _ hlt).trans HBK.out
              have HBK3 : Hid (w3.heap[w.heap.size]? = some (.cells #[.int .i64 0, .int .i64 0, .string ⟨#[]⟩, .slice none 0 0] 71 (0, 0))) := hbk3
              have j0 : w3.cell? ⟨w.heap.size, 0, none⟩ = some (.int .i64 0) := cell_of_row w3 _ 0 _ 71 (0, 0) hbk3
              have j1 : w3.cell? ⟨w.heap.size, 1, none⟩ = some (.int .i64 0) := cell_of_row w3 _ 1 _ 71 (0, 0) hbk3
              have j2 : w3.cell? ⟨w.heap.size, 2, none⟩ = some (.string ⟨#[]⟩) := cell_of_row w3 _ 2 _ 71 (0, 0) hbk3
              have j3 : w3.cell? ⟨w.heap.size, 3, none⟩ = some (.slice none 0 0) := cell_of_row w3 _ 3 _ 71 (0, 0) hbk3
              have hfz3 : ∀ j, w3.frozen? ⟨w.heap.size, j, none⟩ = false := fun j => by simp [World.frozen?, hbk3]
              have i0 := hfz3 0
              have i1 := hfz3 1
              have i2 := hfz3 2
              have i3 := hfz3 3
              clear hbk3 hfz3 hb3 hlt
              go_wp2_with fail
              have c4 := four_set HBK3.out (.int .i64 0) (.int .i64 0) (.string ⟨#[]⟩) (.slice none 0 0)
              have HB4 : Hid _ := four_below B3.out (Nat.le_refl _) (.int .i64 0) (.int .i64 0) (.string ⟨#[]⟩) (.slice none 0 0)
              generalize (((w3.setCell ⟨w.heap.size, 0, none⟩ (.int .i64 0)).setCell ⟨w.heap.size, 1, none⟩ (.int .i64 0)).setCell ⟨w.heap.size, 2, none⟩ (.string ⟨#[]⟩)).setCell ⟨w.heap.size, 3, none⟩ (.slice none 0 0) = w4 at *
              have y0 : w4.cell? ⟨w.heap.size, 0, none⟩ = some (.int .i64 0) := cell_of_row w4 _ 0 _ 71 (0, 0) c4
              have y1 : w4.cell? ⟨w.heap.size, 1, none⟩ = some (.int .i64 0) := cell_of_row w4 _ 1 _ 71 (0, 0) c4
              have y2 : w4.cell? ⟨w.heap.size, 2, none⟩ = some (.string ⟨#[]⟩) := cell_of_row w4 _ 2 _ 71 (0, 0) c4
              have y3 : w4.cell? ⟨w.heap.size, 3, none⟩ = some (.slice none 0 0) := cell_of_row w4 _ 3 _ 71 (0, 0) c4
              refine bodyPost_ret (by simp [results, Try.results73, go_sem, y0, y1, y2, y3]; try rfl) rfl ?_
              exact PrP.no HN.out HB4.out
            | true =>
              have HP3 : Hid (prs (ls (f :: r)) = some (G, A, ((ls r).take N).flatten, (ls r).drop N)) := by unfold Hid; rw [HP2.out, hp, if_neg (by exact fun q => by cases q)]
              unfold JnP at HJ
              rw [hp, if_pos rfl] at HJ
              have HZ : Hid ((⟨((ls r).take N).flatten.toArray⟩ : ByteArray).data.toList = ((ls r).take N).flatten) := rfl
              clear hp HP2
              generalize (⟨((ls r).take N).flatten.toArray⟩ : ByteArray) = Z at *
              go_wp2_with fail
              refine HJ.out.mono ?_
              rintro e w3 ⟨rfl, hb3⟩
              have B3 : Hid (Below w.heap.size w w3) := B2.out.trans (hb3.mono B2.out.size)
              have hlt : w.heap.size < w2.heap.size := (Array.getElem?_eq_some_iff.1 HBK.out).1
              have hlt3 : Hid (w.heap.size < w3.heap.size) := by have := hb3.size; unfold Hid; omega
              have HBK3 : Hid (w3.heap[w.heap.size]? = some (.cells #[.int .i64 0, .int .i64 0, .string ⟨#[]⟩, .slice none 0 0] 71 (0, 0))) := (hb3.block _ hlt).trans HBK.out
              have HC3 : Hid (∀ j (hj : j < r.length), w3.cell? ⟨b, off + 1 + j, none⟩ = some (.string r[j])) := fun j hj => (hb3.cell (by have := B2.out.size; show b < _; omega)).trans (HC2.out j hj)
              clear hb3 hlt HJ HC2 k0 k1 k2 k3 z0 z1 z2 z3 HBK
              have r3 : (N : Int) ≤ (cap : Int) - 1 := by omega
              by_cases q : N < r.length
              · have q1 : ¬ cap - 1 - N = 0 := by omega
                have q2 : ¬ cap - 1 = N := by omega
                have HCL : Hid (Calls Try.prog 86 #[.slice (some ⟨b, off + 1 + N, none⟩) (r.length - N) (cap - 1 - N)] w3 fun e w' => ∃ v', e = .returned v' ∧ w'.ownsRow w3.heap.size 9 1 v' (r.drop N).length (scells (r.drop N)) ∧ v' ≠ .slice none 0 0 ∧ Below w3.heap.size w3 w') := by
                  have := Try.slices_Clone_string b (off + 1 + N) (r.length - N) (cap - 1 - N) (r.drop N) w3 (by rw [List.length_drop]; omega) (by have := HT.out; omega) (fun j hj => by
                    rw [List.length_drop] at hj
                    have e1 := HC3.out (N + j) (by omega)
                    rw [show off + 1 + N + j = off + 1 + (N + j) by omega, e1, List.getD_eq_getElem?_getD, List.getElem?_drop, List.getElem?_eq_getElem (by omega)]
                    rfl)
                  rw [List.take_of_length_le (by rw [List.length_drop]; omega)] at this
                  rw [List.length_drop]
                  exact this
                clear HC3
                go_wp2_with fail
                refine HCL.out.mono ?_
                rintro e w4 ⟨v4, rfl, ho4, hn4, hb4⟩
                obtain ⟨x4, c4, rfl⟩ := own_slice ho4
                have B4 : Hid (Below w.heap.size w w4) := B3.out.trans (hb4.mono B3.out.size)
                have hbk4 : w4.heap[w.heap.size]? = some (.cells #[.int .i64 0, .int .i64 0, .string ⟨#[]⟩, .slice none 0 0] 71 (0, 0)) := (hb4.block _ (by have := hlt3.out; omega)).trans HBK3.out
                have HBK4 : Hid (w4.heap[w.heap.size]? = some (.cells #[.int .i64 0, .int .i64 0, .string ⟨#[]⟩, .slice none 0 0] 71 (0, 0))) := hbk4
                have j0 : w4.cell? ⟨w.heap.size, 0, none⟩ = some (.int .i64 0) := cell_of_row w4 _ 0 _ 71 (0, 0) hbk4
                have j1 : w4.cell? ⟨w.heap.size, 1, none⟩ = some (.int .i64 0) := cell_of_row w4 _ 1 _ 71 (0, 0) hbk4
                have j2 : w4.cell? ⟨w.heap.size, 2, none⟩ = some (.string ⟨#[]⟩) := cell_of_row w4 _ 2 _ 71 (0, 0) hbk4
                have j3 : w4.cell? ⟨w.heap.size, 3, none⟩ = some (.slice none 0 0) := cell_of_row w4 _ 3 _ 71 (0, 0) hbk4
                have hfz4 : ∀ j, w4.frozen? ⟨w.heap.size, j, none⟩ = false := fun j => by simp [World.frozen?, hbk4]
                have i0 := hfz4 0
                have i1 := hfz4 1
                have i2 := hfz4 2
                have i3 := hfz4 3
                have HO4 : Hid (w4.ownsRow w3.heap.size 9 1 (.slice x4 (r.drop N).length c4) (r.drop N).length (scells (r.drop N))) := ho4
                clear hbk4 hfz4 hb4 ho4 hn4
                generalize hLN : (r.drop N).length = LN at *
                have HLN : Hid ((r.drop N).length = LN) := hLN
                clear hLN
                go_wp2_with fail
                have c9 := four_set HBK4.out (.int .i64 G) (.int .i64 A) (.string Z) (.slice x4 LN c4)
                have HB9 : Hid _ := four_below B4.out (Nat.le_refl _) (.int .i64 G) (.int .i64 A) (.string Z) (.slice x4 LN c4)
                have HO9 : Hid _ := own_blk (w' := (((w4.setCell ⟨w.heap.size, 0, none⟩ (.int .i64 G)).setCell ⟨w.heap.size, 1, none⟩ (.int .i64 A)).setCell ⟨w.heap.size, 2, none⟩ (.string Z)).setCell ⟨w.heap.size, 3, none⟩ (.slice x4 LN c4)) HO4.out (fun g hg => four_other (by have := (HO4.out.lt g hg).1; have := hlt3.out; omega) _ _ _ _)
                generalize (((w4.setCell ⟨w.heap.size, 0, none⟩ (.int .i64 G)).setCell ⟨w.heap.size, 1, none⟩ (.int .i64 A)).setCell ⟨w.heap.size, 2, none⟩ (.string Z)).setCell ⟨w.heap.size, 3, none⟩ (.slice x4 LN c4) = w9 at *
                have y0 : w9.cell? ⟨w.heap.size, 0, none⟩ = some (.int .i64 G) := cell_of_row w9 _ 0 _ 71 (0, 0) c9
                have y1 : w9.cell? ⟨w.heap.size, 1, none⟩ = some (.int .i64 A) := cell_of_row w9 _ 1 _ 71 (0, 0) c9
                have y2 : w9.cell? ⟨w.heap.size, 2, none⟩ = some (.string Z) := cell_of_row w9 _ 2 _ 71 (0, 0) c9
                have y3 : w9.cell? ⟨w.heap.size, 3, none⟩ = some (.slice x4 LN c4) := cell_of_row w9 _ 3 _ 71 (0, 0) c9
                refine bodyPost_ret (by simp [results, Try.results73, go_sem, y0, y1, y2, y3]; try rfl) rfl ?_
                exact .inr ⟨G, A, Z, _, r.drop N, by rw [HP3.out, HZ.out, ls_dropN], rfl, by rw [HLN.out]; exact own_base HO9.out (by have := hlt3.out; omega), HB9.out⟩
              · have q0 : r.length - N = 0 := by omega
                have qn : r.length = N := by omega
                have HCL : Hid (∀ a c, Calls Try.prog 86 #[.slice (some a) 0 c] w3 fun e w' => ∃ v', e = .returned v' ∧ w'.ownsRow w3.heap.size 9 1 v' (r.drop N).length (scells (r.drop N)) ∧ v' ≠ .slice none 0 0 ∧ Below w3.heap.size w3 w') := fun a c => by
                  have e1 : r.drop N = [] := List.drop_of_length_le (by omega)
                  rw [e1]
                  exact Try.slices_Clone_string_zero a c w3
                clear HC3 qn
                by_cases q1 : cap - 1 - N = 0
                · have q2 : cap - 1 = N := by omega
                  go_wp2_with fail
                  refine (HCL.out _ _).mono ?_
                  rintro e w4 ⟨v4, rfl, ho4, hn4, hb4⟩
                  obtain ⟨x4, c4, rfl⟩ := own_slice ho4
                  have B4 : Hid (Below w.heap.size w w4) := B3.out.trans (hb4.mono B3.out.size)
                  have hbk4 : w4.heap[w.heap.size]? = some (.cells #[.int .i64 0, .int .i64 0, .string ⟨#[]⟩, .slice none 0 0] 71 (0, 0)) := (hb4.block _ (by have := hlt3.out; omega)).trans HBK3.out
                  have HBK4 : Hid (w4.heap[w.heap.size]? = some (.cells #[.int .i64 0, .int .i64 0, .string ⟨#[]⟩, .slice none 0 0] 71 (0, 0))) := hbk4
                  have j0 : w4.cell? ⟨w.heap.size, 0, none⟩ = some (.int .i64 0) := cell_of_row w4 _ 0 _ 71 (0, 0) hbk4
                  have j1 : w4.cell? ⟨w.heap.size, 1, none⟩ = some (.int .i64 0) := cell_of_row w4 _ 1 _ 71 (0, 0) hbk4
                  have j2 : w4.cell? ⟨w.heap.size, 2, none⟩ = some (.string ⟨#[]⟩) := cell_of_row w4 _ 2 _ 71 (0, 0) hbk4
                  have j3 : w4.cell? ⟨w.heap.size, 3, none⟩ = some (.slice none 0 0) := cell_of_row w4 _ 3 _ 71 (0, 0) hbk4
                  have hfz4 : ∀ j, w4.frozen? ⟨w.heap.size, j, none⟩ = false := fun j => by simp [World.frozen?, hbk4]
                  have i0 := hfz4 0
                  have i1 := hfz4 1
                  have i2 := hfz4 2
                  have i3 := hfz4 3
                  have HO4 : Hid (w4.ownsRow w3.heap.size 9 1 (.slice x4 (r.drop N).length c4) (r.drop N).length (scells (r.drop N))) := ho4
                  clear hbk4 hfz4 hb4 ho4 hn4
                  generalize hLN : (r.drop N).length = LN at *
                  have HLN : Hid ((r.drop N).length = LN) := hLN
                  clear hLN
                  go_wp2_with fail
                  have c9 := four_set HBK4.out (.int .i64 G) (.int .i64 A) (.string Z) (.slice x4 LN c4)
                  have HB9 : Hid _ := four_below B4.out (Nat.le_refl _) (.int .i64 G) (.int .i64 A) (.string Z) (.slice x4 LN c4)
                  have HO9 : Hid _ := own_blk (w' := (((w4.setCell ⟨w.heap.size, 0, none⟩ (.int .i64 G)).setCell ⟨w.heap.size, 1, none⟩ (.int .i64 A)).setCell ⟨w.heap.size, 2, none⟩ (.string Z)).setCell ⟨w.heap.size, 3, none⟩ (.slice x4 LN c4)) HO4.out (fun g hg => four_other (by have := (HO4.out.lt g hg).1; have := hlt3.out; omega) _ _ _ _)
                  generalize (((w4.setCell ⟨w.heap.size, 0, none⟩ (.int .i64 G)).setCell ⟨w.heap.size, 1, none⟩ (.int .i64 A)).setCell ⟨w.heap.size, 2, none⟩ (.string Z)).setCell ⟨w.heap.size, 3, none⟩ (.slice x4 LN c4) = w9 at *
                  have y0 : w9.cell? ⟨w.heap.size, 0, none⟩ = some (.int .i64 G) := cell_of_row w9 _ 0 _ 71 (0, 0) c9
                  have y1 : w9.cell? ⟨w.heap.size, 1, none⟩ = some (.int .i64 A) := cell_of_row w9 _ 1 _ 71 (0, 0) c9
                  have y2 : w9.cell? ⟨w.heap.size, 2, none⟩ = some (.string Z) := cell_of_row w9 _ 2 _ 71 (0, 0) c9
                  have y3 : w9.cell? ⟨w.heap.size, 3, none⟩ = some (.slice x4 LN c4) := cell_of_row w9 _ 3 _ 71 (0, 0) c9
                  refine bodyPost_ret (by simp [results, Try.results73, go_sem, y0, y1, y2, y3]; try rfl) rfl ?_
                  exact .inr ⟨G, A, Z, _, r.drop N, by rw [HP3.out, HZ.out, ls_dropN], rfl, by rw [HLN.out]; exact own_base HO9.out (by have := hlt3.out; omega), HB9.out⟩
                · have q2 : ¬ cap - 1 = N := by omega
                  go_wp2_with fail
                  refine (HCL.out _ _).mono ?_
                  rintro e w4 ⟨v4, rfl, ho4, hn4, hb4⟩
                  obtain ⟨x4, c4, rfl⟩ := own_slice ho4
                  have B4 : Hid (Below w.heap.size w w4) := B3.out.trans (hb4.mono B3.out.size)
                  have hbk4 : w4.heap[w.heap.size]? = some (.cells #[.int .i64 0, .int .i64 0, .string ⟨#[]⟩, .slice none 0 0] 71 (0, 0)) := (hb4.block _ (by have := hlt3.out; omega)).trans HBK3.out
                  have HBK4 : Hid (w4.heap[w.heap.size]? = some (.cells #[.int .i64 0, .int .i64 0, .string ⟨#[]⟩, .slice none 0 0] 71 (0, 0))) := hbk4
                  have j0 : w4.cell? ⟨w.heap.size, 0, none⟩ = some (.int .i64 0) := cell_of_row w4 _ 0 _ 71 (0, 0) hbk4
                  have j1 : w4.cell? ⟨w.heap.size, 1, none⟩ = some (.int .i64 0) := cell_of_row w4 _ 1 _ 71 (0, 0) hbk4
                  have j2 : w4.cell? ⟨w.heap.size, 2, none⟩ = some (.string ⟨#[]⟩) := cell_of_row w4 _ 2 _ 71 (0, 0) hbk4
                  have j3 : w4.cell? ⟨w.heap.size, 3, none⟩ = some (.slice none 0 0) := cell_of_row w4 _ 3 _ 71 (0, 0) hbk4
                  have hfz4 : ∀ j, w4.frozen? ⟨w.heap.size, j, none⟩ = false := fun j => by simp [World.frozen?, hbk4]
                  have i0 := hfz4 0
                  have i1 := hfz4 1
                  have i2 := hfz4 2
                  have i3 := hfz4 3
                  have HO4 : Hid (w4.ownsRow w3.heap.size 9 1 (.slice x4 (r.drop N).length c4) (r.drop N).length (scells (r.drop N))) := ho4
                  clear hbk4 hfz4 hb4 ho4 hn4
                  generalize hLN : (r.drop N).length = LN at *
                  have HLN : Hid ((r.drop N).length = LN) := hLN
                  clear hLN
                  go_wp2_with fail
                  have c9 := four_set HBK4.out (.int .i64 G) (.int .i64 A) (.string Z) (.slice x4 LN c4)
                  have HB9 : Hid _ := four_below B4.out (Nat.le_refl _) (.int .i64 G) (.int .i64 A) (.string Z) (.slice x4 LN c4)
                  have HO9 : Hid _ := own_blk (w' := (((w4.setCell ⟨w.heap.size, 0, none⟩ (.int .i64 G)).setCell ⟨w.heap.size, 1, none⟩ (.int .i64 A)).setCell ⟨w.heap.size, 2, none⟩ (.string Z)).setCell ⟨w.heap.size, 3, none⟩ (.slice x4 LN c4)) HO4.out (fun g hg => four_other (by have := (HO4.out.lt g hg).1; have := hlt3.out; omega) _ _ _ _)
                  generalize (((w4.setCell ⟨w.heap.size, 0, none⟩ (.int .i64 G)).setCell ⟨w.heap.size, 1, none⟩ (.int .i64 A)).setCell ⟨w.heap.size, 2, none⟩ (.string Z)).setCell ⟨w.heap.size, 3, none⟩ (.slice x4 LN c4) = w9 at *
                  have y0 : w9.cell? ⟨w.heap.size, 0, none⟩ = some (.int .i64 G) := cell_of_row w9 _ 0 _ 71 (0, 0) c9
                  have y1 : w9.cell? ⟨w.heap.size, 1, none⟩ = some (.int .i64 A) := cell_of_row w9 _ 1 _ 71 (0, 0) c9
                  have y2 : w9.cell? ⟨w.heap.size, 2, none⟩ = some (.string Z) := cell_of_row w9 _ 2 _ 71 (0, 0) c9
                  have y3 : w9.cell? ⟨w.heap.size, 3, none⟩ = some (.slice x4 LN c4) := cell_of_row w9 _ 3 _ 71 (0, 0) c9
                  refine bodyPost_ret (by simp [results, Try.results73, go_sem, y0, y1, y2, y3]; try rfl) rfl ?_
                  exact .inr ⟨G, A, Z, _, r.drop N, by rw [HP3.out, HZ.out, ls_dropN], rfl, by rw [HLN.out]; exact own_base HO9.out (by have := hlt3.out; omega), HB9.out⟩
    · have c2 : ((f.size : Int) != 21) = true := by rw [bne_iff_ne]; omega
      have HN : Hid (prs (ls (f :: r)) = none) := if_pos c1
      clear c1
      go_enter Try.func73, Try.ntmps73
      go_wp2_with fail
      go_returns
      exact PrP.no HN.out HB0.out
end Go.Proofs.Yteiilifljfagdaa
