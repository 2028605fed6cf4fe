/- The law's zero, joined and told; Texts once more. -/
import Derived.Test.YteiilifljfagdaaZ
import Derived.WalkKit
import Derived.ProofKit
import Derived.Handy
import Derived.WalkLawsBesides
import Derived.WalkSpells
import Derived.BigQuiet
import Derived.BigCall
import Derived.Deep.QuietTactic
import Derived.Deep.Light
import Derived.Deep.OwnRows
import Derived.Laws.AppendOwnNone
import Derived.Laws.Strings3
import Derived.Laws.RangeAny
import Derived.Deep.RegionWith
import Derived.Lib.BitFns
import Derived.Lib.Walk
import Derived.Lib.Strings
import Derived.Lib.OthersKept
import Derived.Deep.CutBlock
import Derived.Deep.DeepCutAuto
import Derived.Deep.LoopGhost
import Derived.Deep.RegionHeld3
import Derived.Lib.SmallJoins
import Derived.Maps.AppendAt
import Derived.Laws.IdiomStrings
import Derived.Lib.AppendZeros
import Derived.Deep.WholeRow
import Derived.Laws.BitsAllLaws
import Derived.Lib.ConvBytes
import Derived.Deep.RegionLaw
namespace Go.Proofs.Yteiilifljfagdaa
open Go.RowKit
set_option linter.unusedVariables false
set_option linter.unusedSimpArgs false
theorem noZero_of {s : ByteArray} (h : ∀ k (hk : k < s.size), s[k] ≠ 0) : noZero s.data.toList := by
  intro x hx
  obtain ⟨i, hi, rfl⟩ := List.getElem_of_mem hx
  have := h i hi
  exact this
def ZrP (s : ByteArray) (w : World) (e : Ending) (w' : World) : Prop := ∃ g : Bool, e = .returned (.bool g) ∧ w = w' ∧ (g = false → noZero s.data.toList)
set_option maxHeartbeats 4000000 in
theorem lzero (s : ByteArray) (hs : s.size ≤ 4096) (w : World) : Calls Try.prog 22 #[.string s] w (ZrP s w) := by
  go_enter Try.func22, Try.ntmps22
  go_wp2_with fail
  go_loopw [3] (fun i wr => ∃ (k : Nat), i = .int .i64 k ∧ k ≤ s.size ∧ w = wr ∧ Hid (∀ j (hj : j < s.size), j < k → s[j] ≠ 0)) (fun i _ => s.size - (Lib.intOf i).toNat)
  case atStart => exact ⟨0, rfl, Nat.zero_le _, by first | rfl | trivial, fun j _ hj => absurd hj (Nat.not_lt_zero j)⟩
  case round =>
    obtain ⟨k, rfl, hk, rfl, HN⟩ := hrel
    by_cases hkn : k < s.size
    · have hkz : (k : Int) < (s.size : Int) := by omega
      obtain ⟨x, hx⟩ : ∃ x : UInt8, s[k] = x := ⟨_, rfl⟩
      by_cases h0 : x = 0
      · have h1 : ((x.toNat : Int) == 0) = true := by rw [h0]; rfl
        have HI := fun w => idx_at hkn hx (show (k : Int) = k from rfl) w
        clear hx h0
        go_wp2_with fail
        go_ret
        exact ⟨true, rfl, rfl, fun h => by cases h⟩
      · have h1 : ((x.toNat : Int) == 0) = false := by
          rw [beq_eq_false_iff_ne]
          intro e
          exact h0 (UInt8.toNat_inj.1 (by simpa using e))
        have HI := fun w => idx_at hkn hx (show (k : Int) = k from rfl) w
        have HN2 : Hid (∀ j (hj : j < s.size), j < k + 1 → s[j] ≠ 0) := by
          intro j hj hjk
          by_cases e : j < k
          · exact HN.out j hj e
          · obtain rfl : j = k := by omega
            rw [hx]
            exact h0
        clear hx h0
        go_wp2_with fail
        exact ⟨⟨k + 1, by go_num, by omega, by first | rfl | trivial, HN2⟩, by simp [Lib.intOf]; omega⟩
    · have hkz : ¬ (k : Int) < (s.size : Int) := by omega
      have HE : Hid (noZero s.data.toList) := noZero_of fun j hj => HN.out j hj (by omega)
      go_wp2_with fail
      go_ret
      exact ⟨false, rfl, rfl, fun _ => HE.out⟩
set_option maxHeartbeats 4000000 in
theorem ljoined (l : List ByteArray) (a : Option Addr) (cap : Nat) (w : World) (h : Strs w a l) (hg : Good l) (hn : l.length ≤ 30) : Calls Try.prog 25 #[.slice a l.length cap] w fun e w' => ∃ J : ByteArray, e = .returned (.string J) ∧ w = w' ∧ J.data.toList = joined (ls l) := by
  have HS : Hid (Strs w a l) := h
  have HG : Hid (Good l) := hg
  clear h hg
  go_enter Try.func25, Try.ntmps25
  go_wp2_with fail
  go_loopw [3, 4] (fun v i wr => ∃ (k : Nat) (J : ByteArray), i = .int .i64 k ∧ v = .string J ∧ k ≤ l.length ∧ w = wr ∧ Hid (J.data.toList = joined (ls (l.take k)))) (fun _ i _ => l.length - (Lib.intOf i).toNat)
  case atStart => exact ⟨0, ⟨#[]⟩, rfl, rfl, Nat.zero_le _, by first | rfl | trivial, rfl⟩
  case round =>
    obtain ⟨k, J, rfl, rfl, hk, rfl, HJ⟩ := hrel
    by_cases hkn : k < l.length
    · have hkz : (k : Int) < (l.length : Int) := by omega
      obtain ⟨b, off, rfl, hbl, hce⟩ := HS.out.at_ (by omega)
      have hc : w.cell? ⟨b, off + k, none⟩ = some (.string l[k]) := hce k hkn
      have hx : l[k].size ≤ 4096 := (HG.out _ (List.getElem_mem hkn)).1
      have hJs : J.size ≤ 122910 := by
        have e1 := joined_good (HG.out.take k)
        rw [← HJ.out, List.length_take] at e1
        have e2 : J.data.toList.length = J.size := rfl
        omega
      have HJ2 : Hid (((J ++ l[k]) ++ (⟨#[0]⟩ : ByteArray)).data.toList = joined (ls (l.take (k + 1)))) := by
        unfold Hid
        rw [ls_take hkn, joined_snoc, app_l, app_l, HJ.out, List.append_assoc]
      generalize l[k] = x at *
      clear hce HJ
      go_wp2_with fail
      exact ⟨⟨k + 1, (J ++ x) ++ ⟨#[0]⟩, by go_num, rfl, by omega, by first | rfl | trivial, HJ2⟩, by simp [Lib.intOf]; omega⟩
    · have hkz : ¬ (k : Int) < (l.length : Int) := by omega
      have HE : Hid (J.data.toList = joined (ls l)) := by
        have := HJ.out
        rw [List.take_of_length_le (by omega)] at this
        exact this
      go_wp2_with fail
      go_ret
      exact ⟨J, rfl, rfl, HE.out⟩
/-- Texts of two rows of different lengths -/
theorem rtexts_ne (n m : Nat) (a b : Option Addr) (c d : Nat) (w : World) (h : n ≠ m) (hn : n ≤ 1099511627776) (hm : m ≤ 1099511627776) : Calls Try.prog 18 #[.slice a n c, .slice b m d] w fun e w' => e = .returned (.bool false) ∧ w = w' := by
  have h1 : ((n : Int) != (m : Int)) = true := by rw [bne_iff_ne]; omega
  have h2 : ((n : Int) == (m : Int)) = false := by rw [beq_eq_false_iff_ne]; omega
  clear h
  go_enter Try.func18, Try.ntmps18
  go_wp2_with fail
  go_ret
  exact ⟨rfl, rfl⟩
set_option maxHeartbeats 4000000 in
/-- Texts of the same: it only looks -/
theorem rtextsQ (l : List ByteArray) (a b : Option Addr) (cap cbp : Nat) (w : World) (h : Strs w a l) (h2 : Strs w b l) : Calls Try.prog 18 #[.slice a l.length cap, .slice b l.length cbp] w fun e w' => e = .returned (.bool true) ∧ ∃ n, w' = w.drewN n := by
  have HS : Hid (Strs w a l) := h
  have HT : Hid (Strs w b l) := h2
  have hlen := h.len
  have hlenz : (l.length : Int) ≤ 140737488355328 := by omega
  have hne : (((l.length : Nat) : Int) != ((l.length : Nat) : Int)) = false := by simp
  clear h h2
  go_enter Try.func18, Try.ntmps18
  go_wp2_with fail
  go_loopw [5] (fun i wr => ∃ (k n : Nat), i = .int .i64 k ∧ k ≤ l.length ∧ wr = w.drewN n) (fun i _ => l.length - (Lib.intOf i).toNat)
  case atStart => exact ⟨0, 0, rfl, Nat.zero_le _, rfl⟩
  case round =>
    obtain ⟨k, m, rfl, hk, hw⟩ := hrel
    have HW : Hid (wr = w.drewN m) := hw
    have HB : Hid (Below w.heap.size w wr) := by rw [hw]; exact bdrew (Below.refl _ w) m
    clear hw
    by_cases hkn : k < l.length
    · have hkz : (k : Int) < (l.length : Int) := by omega
      obtain ⟨b1, off1, rfl, hbl1, hce1⟩ := HS.out.at_ (by omega)
      obtain ⟨b2, off2, rfl, hbl2, hce2⟩ := HT.out.at_ (by omega)
      have hc1 : wr.cell? ⟨b1, off1 + k, none⟩ = some (.string l[k]) := (HB.out.cell (by exact hbl1)).trans (hce1 k hkn)
      have hc2 : wr.cell? ⟨b2, off2 + k, none⟩ = some (.string l[k]) := (HB.out.cell (by exact hbl2)).trans (hce2 k hkn)
      generalize l[k] = x at *
      have hxx : (x.toList != x.toList) = false := by simp
      clear hce1 hce2
      go_wp2_with fail
      go_quiet (fail)
      go_wp2_with fail
      exact ⟨⟨k + 1, m + nq, by go_num, by omega, by rw [HW.out]; first | rfl | exact (World.drewN_drewN ..)⟩, by simp [Lib.intOf]; omega⟩
    · have hkz : ¬ (k : Int) < (l.length : Int) := by omega
      go_wp2_with fail
      go_ret
      exact ⟨rfl, m, HW.out⟩
/-- what told hands back -/
theorem joined_at {all : List ByteArray} {a k : Nat} (hk : k < a) (ha : a ≤ all.length) : joined (ls ((all.take a).drop k)) = all[k].data.toList ++ 0 :: joined (ls ((all.take a).drop (k + 1))) := by
  have hl : k < (all.take a).length := by rw [List.length_take]; omega
  rw [List.drop_eq_getElem_cons hl, List.getElem_take]
  exact joined_cons _ _
set_option maxHeartbeats 8000000 in
set_option maxRecDepth 100000 in
theorem ltold {B q p f g a : Nat} {s : ByteArray} {v : Value} {cs all : List ByteArray} (w : World) (h : Jm B w q p false f g a s v cs) (ht : Tells a s.data.toList (ls cs) (ls all)) (hg : Good all) (hn : all.length ≤ 31) (hB : B ≤ w.heap.size) : Calls Try.prog 29 #[.pointer (some ⟨q, 0, none⟩)] w (CmP w all) := by
  have HJ : Hid (Jm B w q p false f g a s v cs) := h
  have HT : Hid (Tells a s.data.toList (ls cs) (ls all)) := ht
  have HG : Hid (Good all) := hg
  have ha : a ≤ all.length := by have := ht.le; rw [ls_len] at this; exact this
  have hcs : cs = all.drop a := ls_inj (by rw [ht.cs, ls_dropN])
  have hcl : cs.length ≤ 31 := by rw [hcs, List.length_drop]; omega
  have hss : s.size ≤ 1048576 := by
    have e0 : s.data.toList.length = s.size := rfl
    have e1 := joined_good (hg.take a)
    rw [← e0, ht.st, ← ls_takeN]
    rw [List.length_take] at e1
    omega
  have HCZ : Hid (∀ c ∈ cs, c.size ≤ 1048576) := fun c hc => by
    rw [hcs] at hc
    have := (hg c (List.mem_of_mem_drop hc)).1
    omega
  have HCS : Hid (all = all.take a ++ cs) := by unfold Hid; rw [hcs, List.take_append_drop]
  have HS0 : Hid (s.data.toList = joined (ls ((all.take a).drop 0))) := by unfold Hid; rw [List.drop_zero, ht.st, ls_takeN]
  clear h ht hg hcs
  go_enter Try.func29, Try.ntmps29
  go_wp2_with fail
  refine (xState HJ.out hss).mono ?_
  rintro e w1 ⟨rfl, hb1⟩
  have HB1 : Hid (Below w.heap.size w w1) := hb1
  have HJ1 : Hid (Jm B w1 q p false f g a s v cs) := HJ.out.keep hb1
  clear hb1
  go_wp2_with fail
  refine (xSeq HJ1.out (by omega) (by omega)).mono ?_
  rintro e w2 ⟨rfl, hb2⟩
  have HB2 : Hid (Below w.heap.size w w2) := HB1.out.trans (hb2.mono HB1.out.size)
  have HJ2 : Hid (Jm B w2 q p false f g a s v cs) := HJ1.out.keep hb2
  clear hb2 HJ1 HB1
  go_wp2_with fail
  refine (xCommands HJ2.out (by omega) HCZ.out).mono ?_
  rintro e w3 ⟨v3, rfl, ho3, hb3⟩
  obtain ⟨x3, c3, rfl⟩ := own_slice ho3.out
  have HB3 : Hid (Below w.heap.size w w3) := HB2.out.trans (hb3.out.mono HB2.out.size)
  have HJ3 : Hid (Jm B w3 q p false f g a s v cs) := HJ2.out.keep hb3.out
  clear hb3 ho3 HJ2 HB2
  go_wp2_with fail
  go_loopw [3, 4, 6] (fun u sv i wr => ∃ (k : Nat) (t : ByteArray), i = .int .i64 k ∧ sv = .string t ∧ k ≤ a ∧ t.size ≤ 1048576 ∧ Hid (wr.ownsRow w.heap.size 9 1 u (all.take k).length (scells (all.take k))) ∧ Hid (Below w.heap.size w wr) ∧ Hid (t.data.toList = joined (ls ((all.take a).drop k)))) (fun _ _ i _ => a - (Lib.intOf i).toNat)
  case atStart => exact ⟨0, s, rfl, rfl, Nat.zero_le _, hss, World.ownsRow_nil _ _ _ _, HB3, HS0⟩
  case round =>
    clear HB3 HS0 HJ3
    obtain ⟨k, t, rfl, rfl, hk, hts, HO, HB, HD⟩ := hrel
    generalize wr = W at *
    by_cases hka : k < a
    · have hkz : (k : Int) < (a : Int) := by omega
      have hkl : k < all.length := by omega
      have hja := joined_at hka ha
      rw [← HD.out] at hja
      obtain ⟨c, hc⟩ : ∃ c, all[k] = c := ⟨_, rfl⟩
      rw [hc] at hja
      have hcg : c.size ≤ 4096 ∧ noZero c.data.toList := by rw [← hc]; exact HG.out _ (List.getElem_mem hkl)
      have htz : t.size = c.size + 1 + (joined (ls ((all.take a).drop (k + 1)))).length := by
        have e : t.data.toList.length = t.size := rfl
        have e2 : c.data.toList.length = c.size := rfl
        rw [← e, hja, List.length_append, List.length_cons, e2]
        omega
      have HIx : Hid (∀ m (hm : m < t.size), m < c.size → t[m] ≠ 0) := by
        intro m hm hmc
        have e1 : t[m] = t.data.toList[m] := rfl
        rw [e1]
        have e2 : t.data.toList[m]? = some (c.data.toList[m]'hmc) := by rw [hja, List.getElem?_append_left hmc, List.getElem?_eq_getElem hmc]
        rw [List.getElem?_eq_getElem hm] at e2
        injection e2 with e2
        rw [e2]
        exact hcg.2 _ (List.getElem_mem hmc)
      have HIz : Hid (∀ (hm : c.size < t.size), t[c.size] = 0) := by
        intro hm
        have e1 : t[c.size] = t.data.toList[c.size] := rfl
        rw [e1]
        have e2 : t.data.toList[c.size]? = some 0 := by
          have e3 : c.data.toList.length = c.size := rfl
          rw [hja, List.getElem?_append_right (by omega), e3, Nat.sub_self]
          rfl
        rw [List.getElem?_eq_getElem hm] at e2
        injection e2
      have hE1 : t.extract 0 c.size = c := by
        refine ba_ext ?_
        rw [ext_list, List.drop_zero, Nat.sub_zero, hja]
        exact List.take_left' rfl
      have HE2 : Hid ((t.extract (c.size + 1) t.size).data.toList = joined (ls ((all.take a).drop (k + 1)))) := by
        unfold Hid
        rw [drop_all, hja, ← List.drop_drop]
        rw [List.drop_left' (show c.data.toList.length = c.size from rfl)]
        rfl
      have hs2 := ext_len t (c.size + 1) t.size (Nat.le_refl _)
      have HT1 : Hid (all.take (k + 1) = all.take k ++ [c]) := by unfold Hid; rw [take_get hkl, hc]
      have hct : c.size < t.size := by omega
      have HTZ : Hid (t.size = c.size + 1 + (joined (ls ((all.take a).drop (k + 1)))).length) := htz
      obtain ⟨v', w4, hr, ho, hg, _⟩ := app_one HO.out HB.out.size c (by rw [List.length_take]; omega)
      have HR : Hid _ := hr
      have HO4 : Hid (w4.ownsRow w.heap.size 9 1 v' (all.take (k + 1)).length (scells (all.take (k + 1)))) := by unfold Hid; rw [HT1.out]; exact ho
      have HB4 : Hid (Below w.heap.size w w4) := (HB.out.alloc HB.out.size _).grown hg (by have := HB.out.size; simp; omega) (fun j hj => (HO.out.lt j hj).1)
      clear hja hc htz hr ho hg HT1 HD HO HB
      go_wp2_with fail
      go_loopw [7] (fun mv wi => ∃ m : Nat, mv = .int .i64 m ∧ m ≤ c.size ∧ W = wi) (fun mv _ => c.size - (Lib.intOf mv).toNat)
      case atStart => exact ⟨0, rfl, Nat.zero_le _, by first | rfl | trivial⟩
      case round =>
        obtain ⟨m, rfl, hm, rfl⟩ := hrel
        have hmt : m < t.size := by omega
        have hmz : (m : Int) < (t.size : Int) := by omega
        obtain ⟨x, hx⟩ : ∃ x : UInt8, t[m] = x := ⟨_, rfl⟩
        have HI := fun w => idx_at hmt hx (show (m : Int) = m from rfl) w
        by_cases hmc : m < c.size
        · have h1 : ((x.toNat : Int) != 0) = true := by
            rw [bne_iff_ne]
            intro e
            have := HIx.out m hmt hmc
            rw [hx] at this
            exact this (UInt8.toNat_inj.1 (by simpa using e))
          clear hx
          go_wp2_with fail
          exact ⟨⟨m + 1, by go_num, by omega, by first | rfl | trivial⟩, by simp [Lib.intOf]; omega⟩
        · obtain rfl : m = c.size := by omega
          have h1 : ((x.toNat : Int) != 0) = false := by
            rw [bne_eq_false_iff_eq]
            have := HIz.out hmt
            rw [hx] at this
            rw [this]
            rfl
          have h2 : ((c.size : Int) == (t.size : Int)) = false := by rw [beq_eq_false_iff_ne]; omega
          have h3 : (c.size : Int) ≤ (t.size : Int) := by omega
          have h4 : (c.size : Int) + 1 ≤ (t.size : Int) := by omega
          have Hs2 : Hid ((t.extract (c.size + 1) t.size).size ≤ 1048576) := by unfold Hid; omega
          clear hx hs2
          go_wp2_with (at_builtin; refine Lib.wpList_append_run _ rfl _ _ 35 35 rfl _ _ rfl rfl _ w4 HR.out ?_)
          exact ⟨⟨k + 1, t.extract (c.size + 1) t.size, by go_num, rfl, by omega, Hs2.out, HO4, HB4, HE2⟩, by simp [Lib.intOf]; omega⟩
    · have hkz : ¬ (k : Int) < (a : Int) := by omega
      obtain rfl : k = a := by omega
      have HJW : Hid (Jm B W q p false f g k s v cs) := HJ.out.keep HB.out
      have HAP : Hid (∀ w4 v4, Below W.heap.size W w4 → w4.ownsRow W.heap.size 9 1 v4 cs.length (scells cs) → ∃ v' w5, (Builtin.append_ #[35, 35] 35 #[u3, v4]).run Try.prog w4 = .ok v' w5 ∧ w5.ownsRow w.heap.size 9 1 v' all.length (scells all) ∧ Below w.heap.size w w5) := by
        intro w4 v4 hb ho4
        have hbb : Below w.heap.size w w4 := HB.out.trans (hb.mono HB.out.size)
        obtain ⟨v', w5, hr, ho, hg, _⟩ := app_txt (own_keep HO.out hb) ho4 hbb.size (by rw [List.length_take]; omega)
        rw [← HCS.out] at ho
        exact ⟨v', w5, hr, ho, hbb.grown hg hbb.size (fun j hj => (HO.out.lt j hj).1)⟩
      clear HD
      go_wp2_with fail
      refine (xCommands HJW.out (by omega) HCZ.out).mono ?_
      rintro e w4 ⟨v4, rfl, ho4, hb4⟩
      obtain ⟨v', w5, hr, ho, hb⟩ := HAP.out w4 v4 hb4.out ho4.out
      have HR : Hid _ := hr
      have HO5 : Hid (w5.ownsRow w.heap.size 9 1 v' all.length (scells all)) := ho
      have HB5 : Hid (Below w.heap.size w w5) := hb
      clear hr ho hb ho4 hb4 HAP HO HB HJW
      go_wp2_with (at_builtin; refine Lib.wpList_append_run _ rfl _ _ 35 35 rfl _ _ rfl rfl _ w5 HR.out ?_)
      go_ret
      exact ⟨_, rfl, HO5, HB5⟩
end Go.Proofs.Yteiilifljfagdaa
