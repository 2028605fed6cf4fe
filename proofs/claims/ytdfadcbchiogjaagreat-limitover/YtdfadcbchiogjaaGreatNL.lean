/- layer 16: Uses of the program -/
import Derived.Test.YtdfadcbchiogjaaGreatNK
import Derived.WalkKit
import Derived.ProofKit
import Derived.Handy
import Derived.WalkLawsBesides
import Derived.WalkSpells
import Derived.BigQuiet
import Derived.BigCall
import Derived.Deep.QuietTactic
import Derived.Deep.Light
import Derived.Deep.OwnRows
import Derived.Laws.AppendOwnNone
import Derived.Laws.Strings3
import Derived.Laws.RangeAny
import Derived.Deep.RegionWith
import Derived.Lib.BitFns
import Derived.Lib.Walk
import Derived.Lib.Strings
import Derived.Lib.OthersKept
import Derived.Deep.CutBlock
import Derived.Deep.DeepCutAuto
import Derived.Deep.LoopGhost
import Derived.Deep.RegionHeld3
import Derived.Lib.SmallJoins
import Derived.Maps.AppendAt
import Derived.Laws.IdiomStrings
import Derived.Lib.AppendZeros
import Derived.Deep.WholeRow
import Derived.Laws.BitsAllLaws
import Derived.Lib.ConvBytes
import Derived.Deep.RegionLaw
import Derived.Maps.OwnSet
import Derived.Maps.OwnOps
import Derived.Maps.RangeWalk
import Derived.Maps.Ext
import Derived.DeepKeys4
import Derived.Laws.StructEq
import Derived.Deep.MidRow
import Derived.Lib.Bytealg
import Derived.Lib.AppendZerosOnto
import Derived.Laws.MakeOwn
import Derived.Deep.Upon
import Derived.Sort.KeysCollected
namespace Go.Proofs.YtdfadcbchiogjaaGreat
open Go.RowKit
set_option linter.unusedVariables false
set_option linter.unusedSimpArgs false
set_option maxRecDepth 20000
theorem wf_rng {n : Int} (h : (Lit.int .i64 n).wf = true) : Rng n := by
  simpa [Lit.wf, IntKind.min, IntKind.max, IntKind.signed, IntKind.bits, Rng] using h
theorem step_append_run {P : Program} (w : World) {ops : Array Oper} {o : Oper} {a : Act} {K : Act → World → Prop} {Q : Exit → Act → World → Prop} {E : Prop} (hgd : o.guard = none) (s x : Operand) (t tn : TypeId)
    (ho : o.op = .call { callee := .builtin .append, args := #[s, x], argTypes := #[t, tn] }) (vs vx : Value) (hs : a.eval s = vs) (hx : a.eval x = vx)
    (v' : Value) (w' : World) (hr : (Builtin.append_ #[t, tn] o.type #[vs, vx]).run P w = .ok v' w') (h : K (a.put o.dst v') w') :
    if Region.wanted o (yielded ops a.tmps) = true then Oper.wp P o a w K Q else E := by
  have hw : Region.wanted o (yielded ops a.tmps) = true := by simp [Region.wanted, hgd]
  rw [if_pos hw]
  exact Lib.wp_append_run w s x t tn ho vs vx hs hx v' w' hr h
def ucs (u : Us) : List Value := [.int .i64 u.i, .string ⟨u.s.toArray⟩, .int .i64 u.c, .int .i64 u.l]
theorem ucs_len (u : Us) : (ucs u).length = 4 := rfl
theorem ucs_one (x : Us) : ∀ u ∈ ucs x, u.oneCell' = true := by
  intro u hu
  unfold ucs at hu
  simp at hu
  rcases hu with rfl | rfl | rfl | rfl <;> rfl
theorem info53 : (Tryz.prog.info? 59).map (fun i => (i.zero, i.size, i.bytes)) = some (some (.agg #[.int .i64 0, .string ⟨#[]⟩, .int .i64 0, .int .i64 0]), 4, 40) := by kernel_rfl
def scs (s : List UInt8) : List Value := [.string ⟨s.toArray⟩]
theorem scs_len (n : List UInt8) : (scs n).length = 1 := rfl
theorem rcs_scs (xs : List (List UInt8)) : rcs scs xs = xs.map encStr := by
  induction xs with
  | nil => rfl
  | cons x r ih =>
    show scs x ++ rcs scs r = _
    rw [ih]
    rfl
theorem own_drew {w : World} {B e k n : Nat} {v : Value} {cs : List Value} (h : w.ownsRow B e k v n cs) : w.drew.ownsRow B e k v n cs := own_below h (below_drew1 w)
theorem own_apart {w : World} {B B' e e' k k' n n' : Nat} {v v' : Value} {cs cs' : List Value} (h : w.ownsRow B e k v n cs) (h' : w.ownsRow B' e' k' v' n' cs') (he : e ≠ e') : ∀ g, v.ownBlock = some g → some g ≠ v'.ownBlock := by
  intro g hg hg'
  rcases h.2 with ⟨rfl, _⟩ | ⟨g1, cap, cur, rfl, hB, hc, _⟩
  · cases hg
  · rcases h'.2 with ⟨rfl, _⟩ | ⟨g2, cap2, cur2, rfl, hB2, hc2, _⟩
    · cases hg'
    · have e1 : g1 = g := by simpa [Value.ownBlock] using hg
      have e2 : g2 = g := by simpa [Value.ownBlock] using hg'.symm
      subst e1
      rw [e2, hc] at hc2
      injection hc2 with hc2
      injection hc2 with _ h3 _
      exact he h3
theorem own_keep {w w' : World} {B e k n : Nat} {v : Value} {cs : List Value} {r : Option Nat} (ho : w.ownsRow B e k v n cs) (hg : w.grownBy w' r) (hr : ∀ g, v.ownBlock = some g → some g ≠ r) : w'.ownsRow B e k v n cs := by
  refine ⟨ho.1, ?_⟩
  rcases ho.2 with h2 | ⟨g, cap, cur, rfl, hB, hgc, hq⟩
  · exact .inl h2
  · exact .inr ⟨g, cap, cur, rfl, hB, (hg.block g (Array.getElem?_eq_some_iff.1 hgc).1 (hr g rfl)).trans hgc, hq⟩
def U1 (t : Tb) (n : Int) : Us := ⟨n, [], smI t.L n, t.li⟩
def U2 (t : Tb) (s : List UInt8) : Us := ⟨-1, s, smA t.L s, t.la⟩
theorem uses_eq (t : Tb) : t.uses = (upsI t.L).map (U1 t) ++ (upsA t.L).map (U2 t) := rfl
def UsP (T k : Nat) (f : Us → List Value) (l : List Us) (w : World) (e : Ending) (w' : World) : Prop := ∃ v, e = .returned v ∧ Hid (w'.ownsRow w.heap.size T k v l.length (rcs f l) ∧ Below w.heap.size w w')
theorem takeL {α : Type} (f : α → Us) (l : List Us) (S : List α) {k : Nat} (hk : k < S.length) : l ++ (S.take (k + 1)).map f = (l ++ (S.take k).map f) ++ [f S[k]] := by
  rw [← List.take_append_getElem hk, List.map_append, List.append_assoc]
  rfl
set_option maxHeartbeats 8000000 in
theorem xuses {w : World} {p m1 m2 : Nat} {t : Tb} (h : Tm w p m1 m2 t) (gi : ∀ n, 0 ≤ smI t.L n) (ga : ∀ s, 0 ≤ smA t.L s) (hl : t.L.length ≤ 1000) (hz : ∀ q ∈ t.L, q.s.length ≤ 281474976710656) : Calls Tryz.prog 19 #[.pointer (some ⟨p, 0, none⟩)] w (UsP 59 4 ucs t.uses w) := by
  have HL : Hid (Calls Tryz.prog 34 #[.pointer (some ⟨p, 0, none⟩)] w (BP false w)) := xlack h
  have c3 : w.cell? ⟨p, 3, none⟩ = some (.map (some m1)) := h.b.cell 3
  have HK : Hid (Calls Tryz.prog 27 #[.map (some m1)] w fun e w' => e = .returned (.func (.func 48) #[] #[.pointer (some ⟨w.heap.size, 0, none⟩)]) ∧ w' = w.alloc (.cells #[.map (some m1)] 73)) := xkeysI (some m1) w
  obtain ⟨S, hS⟩ : ∃ S, S = upsI t.L := ⟨_, rfl⟩
  obtain ⟨S2, hS2⟩ : ∃ S, S = upsA t.L := ⟨_, rfl⟩
  have hSl : S.length ≤ 1000 := by rw [hS]; exact Nat.le_trans (upsI_len _) hl
  have hSl2 : S2.length ≤ 1000 := by rw [hS2]; exact Nat.le_trans (upsA_len _) hl
  have HS : Hid (Calls Tryz.prog 26 #[.func (.func 48) #[] #[.pointer (some ⟨w.heap.size, 0, none⟩)]] (w.alloc (.cells #[.map (some m1)] 73)) (fun e w' => ∃ a cap, e = .returned (.slice a S.length cap) ∧ Hid (Rw 1 ics w' a S ∧ Below w.heap.size w w'))) := by
    refine (xsortedI h.i (S := t.L.map (·.i)) (fun b hb => smI_src hb) (by rw [List.length_map]; omega)).mono fun e w' hh => ?_
    obtain ⟨v, K, rfl, hp, hm, ho, hb⟩ := hh
    obtain rfl : K = S := by rw [hS]; exact upsI_is gi hp hm
    rw [← rcs_ics] at ho
    obtain ⟨a, cap, rfl, hc, hr⟩ := own_rw ics_len ho rfl
    exact ⟨a, cap, rfl, hr, ((Below.refl _ w).alloc (Nat.le_refl _) _).trans (hb.mono (by simp))⟩
  have HT : Hid (∀ W, Below w.heap.size w W → Tm W p m1 m2 t) := fun W hb => h.below hb
  have HK2 : Hid (∀ W, Calls Tryz.prog 42 #[.map (some m2)] W fun e w' => e = .returned (.func (.func 70) #[] #[.pointer (some ⟨W.heap.size, 0, none⟩)]) ∧ w' = W.alloc (.cells #[.map (some m2)] 85)) := fun W => xkeysS (some m2) W
  have HS2 : Hid (∀ W, Below w.heap.size w W → Tm W p m1 m2 t → Calls Tryz.prog 41 #[.func (.func 70) #[] #[.pointer (some ⟨W.heap.size, 0, none⟩)]] (W.alloc (.cells #[.map (some m2)] 85)) (fun e w' => ∃ a cap, e = .returned (.slice a S2.length cap) ∧ Hid (w'.ownsRow w.heap.size 9 1 (.slice a S2.length cap) S2.length (rcs scs S2) ∧ (∀ s ∈ S2, s.length ≤ 281474976710656) ∧ Below W.heap.size W w'))) := fun W hBW hW => by
    refine (xsortedS hW.a (S := t.L.map (·.s)) (fun b hb => smA_src hb) (by rw [List.length_map]; omega)).mono fun e w' hh => ?_
    obtain ⟨v, K, rfl, hp, hm, -, ho, hb⟩ := hh
    obtain rfl : K = S2 := by rw [hS2]; exact upsA_is ga hp hm
    rw [← rcs_scs] at ho
    obtain ⟨a, cap, rfl, hc, hr⟩ := own_rw scs_len ho rfl
    exact ⟨a, cap, rfl, own_mono ho (by have := hBW.size; omega), fun s hs => (by obtain ⟨q, hq, rfl⟩ := List.mem_map.1 (smA_src ((hm s).1 hs)); exact hz q hq), ((Below.refl _ W).alloc (Nat.le_refl _) _).trans (hb.mono (by simp))⟩
  have HRng : Hid (∀ n ∈ S, Rng n) := fun n hn => by
    rw [hS] at hn
    have hn' := upsI_mem.1 hn
    obtain ⟨L, ⟨es, o1, o2, o3, o4⟩, o5, o6⟩ := h.i
    obtain ⟨q, hq, rfl⟩ := gt_has (L := L) (a := n) (by rw [o5]; omega)
    have := o3 q hq
    have this : (Lit.int .i64 q.1).wf = true := this
    exact wf_rng this
  have HU : Hid (t.uses = S.map (U1 t) ++ S2.map (U2 t)) := by rw [hS, hS2]; exact uses_eq t
  clear h gi ga hS hS2 hl hz
  go_enter Tryz.func19, Tryz.ntmps19
  go_wp2_with (first | (go_at_call 34; refine HL.out.mono ?_; clear HL; rintro e w2 ⟨rfl, rfl⟩) | (go_at_call 27; refine HK.out.mono ?_; clear HK; rintro e w2 ⟨rfl, rfl⟩) | (go_at_call 26; refine HS.out.mono ?_; clear HS; rintro e w3 ⟨a1, cap1, rfl, HZ⟩))
  go_loopw [3, 17] (fun v i wr => ∃ k : Nat, k ≤ S.length ∧ i = .int .i64 k ∧ Hid (wr.ownsRow w3.heap.size 59 4 v ((S.take k).map (U1 t)).length (rcs ucs ((S.take k).map (U1 t))) ∧ Below w3.heap.size w3 wr))
    (fun _ i _ => S.length - (intOf i).toNat)
  case atStart => exact ⟨0, Nat.zero_le _, rfl, World.ownsRow_nil _ _ _ _, Below.refl _ _⟩
  case round =>
    obtain ⟨k, hk, rfl, HO⟩ := hrel
    by_cases hkn : k < S.length
    · have hkz : (k : Int) < (S.length : Int) := by omega
      obtain ⟨blk, off, rfl, hbl, hcs⟩ := HZ.out.1 (by omega)
      have e0 : wr.cell? ⟨blk, off + k, none⟩ = some (.int .i64 S[k]) := by
        have := hcs k hkn 0 (by omega)
        exact (HO.out.2.cell (p := ⟨blk, off + k, none⟩) hbl).trans (by simpa [ics] using this)
      have hT : Tm wr p m1 m2 t := HT.out wr (HZ.out.2.trans (HO.out.2.mono HZ.out.2.size))
      have d3 : wr.cell? ⟨p, 3, none⟩ = some (.map (some m1)) := hT.b.cell 3
      have d1 : wr.cell? ⟨p, 1, none⟩ = some (.int .i64 t.li) := hT.b.cell 1
      have hn := HRng.out S[k] (List.getElem_mem hkn)
      have lk : (Instr.lookup 73 (.map (some m1)) (.int .i64 S[k]) false).run Tryz.prog wr.drew = .ok (.int .i64 (smI t.L S[k])) wr.drew := hT.drew.lookI hn
      have hlen : ((S.take k).map (U1 t)).length ≤ 1000 := by rw [List.length_map, List.length_take]; omega
      obtain ⟨v', w7, hr, ho, hg⟩ := app_gen (T := 59) (Sl := 28) (k := 4) (bytes := 40) Tryz.underlying28 info53 rfl (by omega) (ucs (U1 t S[k])) rfl (ucs_one _) (own_drew HO.out.1) HO.out.2.size (by omega) (by unfold maxLen; omega)
      have hr' : (Builtin.append_ #[28, 28] 28 #[u3, .slice (some ⟨wr.heap.size, 0, none⟩) 1 1]).run Tryz.prog (wr.drew.alloc (.cells #[.int .i64 S[k], .string ⟨#[]⟩, .int .i64 (smI t.L S[k]), .int .i64 t.li] 59)) = .ok v' w7 := hr
      have HY : Hid (w7.ownsRow w3.heap.size 59 4 v' ((S.take (k + 1)).map (U1 t)).length (rcs ucs ((S.take (k + 1)).map (U1 t))) ∧ Below w3.heap.size w3 w7) := by
        have e1 := takeL (U1 t) [] S hkn
        simp only [List.nil_append] at e1
        rw [e1, rcs_snoc, List.length_append]
        exact ⟨ho, ((HO.out.2.drew).alloc HO.out.2.size _).grown hg (by have := HO.out.2.size; simp; omega) (fun j hj => (HO.out.1.lt j hj).1)⟩
      clear hcs HO hT hn hlen hr ho hg hbl HZ
      generalize S[k] = x at *
      generalize smI t.L x = cv at *
      go_wp2_with fail
      go_region_law (refine step_append_run _ (by rfl) _ _ 28 28 (by rfl) _ _ (by rfl) (by rfl) _ w7 hr' ?_)
      all_goals
        go_wp2_with fail
        go_roundw
        case rel => exact ⟨k + 1, by omega, by simp, HY.out⟩
        case measure => simp [intOf]; omega
    · have hkz : ¬ (k : Int) < (S.length : Int) := by omega
      have HO1 : Hid (wr.ownsRow w3.heap.size 59 4 u3 (S.map (U1 t)).length (rcs ucs (S.map (U1 t))) ∧ Below w3.heap.size w3 wr) := by
        have := HO.out
        rwa [show k = S.length by omega, List.take_length] at this
      have HB3 : Hid (Below w.heap.size w w3) := HZ.out.2
      have hT : Tm wr p m1 m2 t := HT.out wr (HB3.out.trans (HO.out.2.mono HB3.out.size))
      have d4 : wr.cell? ⟨p, 4, none⟩ = some (.map (some m2)) := hT.b.cell 4
      have HC : Hid (Calls Tryz.prog 41 #[.func (.func 70) #[] #[.pointer (some ⟨wr.heap.size, 0, none⟩)]] (wr.alloc (.cells #[.map (some m2)] 85)) (fun e w' => ∃ a cap, e = .returned (.slice a S2.length cap) ∧ Hid (w'.ownsRow w.heap.size 9 1 (.slice a S2.length cap) S2.length (rcs scs S2) ∧ (∀ s ∈ S2, s.length ≤ 281474976710656) ∧ Below wr.heap.size wr w'))) := HS2.out wr (HB3.out.trans (HO.out.2.mono HB3.out.size)) hT
      have HB3' : Hid (Below w.heap.size w w3) := HB3.out
      clear HO HZ HS2 HRng hT
      go_wp2_with (first | (go_at_call 42; refine (HK2.out _).mono ?_; clear HK2; rintro e w4 ⟨rfl, rfl⟩) | (go_at_call 41; refine HC.out.mono ?_; clear HC; rintro e w4 ⟨a2, cap2, rfl, HZ⟩))
      have HO4 : Hid (w4.ownsRow w3.heap.size 59 4 u3 (S.map (U1 t)).length (rcs ucs (S.map (U1 t))) ∧ Below w3.heap.size w3 w4) := ⟨own_below HO1.out.1 HZ.out.2.2, HO1.out.2.trans (HZ.out.2.2.mono HO1.out.2.size)⟩
      have HB4 : Hid (Below w.heap.size w w4) := HB3.out.trans (HO4.out.2.mono HB3.out.size)
      clear HO1 HB3
      go_loopw [3, 44] (fun v i wr => ∃ k : Nat, k ≤ S2.length ∧ i = .int .i64 k ∧ Hid (wr.ownsRow w3.heap.size 59 4 v (S.map (U1 t) ++ (S2.take k).map (U2 t)).length (rcs ucs (S.map (U1 t) ++ (S2.take k).map (U2 t))) ∧ Below w3.heap.size w3 wr ∧ wr.ownsRow w.heap.size 9 1 (.slice a2 S2.length cap2) S2.length (rcs scs S2)))
        (fun _ i _ => S2.length - (intOf i).toNat)
      case atStart => exact ⟨0, Nat.zero_le _, rfl, by simpa using HO4.out.1, HO4.out.2, HZ.out.1⟩
      case round =>
        obtain ⟨k, hk, rfl, HO⟩ := hrel
        have HZs : Hid (∀ s ∈ S2, s.length ≤ 281474976710656) := HZ.out.2.1
        clear HZ
        by_cases hkn : k < S2.length
        · have hkz : (k : Int) < (S2.length : Int) := by omega
          obtain ⟨a3, cap3, e3, hc3, hr3⟩ := own_rw scs_len HO.out.2.2 rfl
          injection e3 with e31 e32 e33
          subst e31 e33
          obtain ⟨blk, off, rfl, hbl, hcs⟩ := hr3 (by omega)
          have e0 : wr.cell? ⟨blk, off + k, none⟩ = some (.string ⟨S2[k].toArray⟩) := by
            have := hcs k hkn 0 (by omega)
            simpa [scs] using this
          have hb : Below w.heap.size w wr := HB3'.out.trans (HO.out.2.1.mono HB3'.out.size)
          have hT : Tm wr p m1 m2 t := HT.out wr hb
          have hsz : S2[k].length ≤ 281474976710656 := HZs.out _ (List.getElem_mem _)
          have hsz' : (⟨S2[k].toArray⟩ : ByteArray).size ≤ maxLen := by
            have : S2[k].length ≤ maxLen := by unfold maxLen; omega
            simpa [ByteArray.size] using this
          have hlen : (S.map (U1 t) ++ (S2.take k).map (U2 t)).length ≤ 2000 := by rw [List.length_append, List.length_map, List.length_map, List.length_take]; omega
          have HC2 : Hid (Calls Tryz.prog 39 #[.string ⟨S2[k].toArray⟩] wr.drew fun e w6 => ∃ y, e = .returned y ∧ (y = .string ⟨S2[k].toArray⟩ ∧ w6.cell? ⟨p, 4, none⟩ = some (.map (some m2)) ∧ w6.cell? ⟨p, 2, none⟩ = some (.int .i64 t.la) ∧ (Instr.lookup 85 (.map (some m2)) (.string ⟨S2[k].toArray⟩) false).run Tryz.prog w6 = .ok (.int .i64 (smA t.L S2[k])) w6 ∧
              ∃ v' w7, (Builtin.append_ #[28, 28] 28 #[u3, .slice (some ⟨w6.heap.size, 0, none⟩) 1 1]).run Tryz.prog (w6.alloc (.cells #[.int .i64 (-1), .string ⟨S2[k].toArray⟩, .int .i64 (smA t.L S2[k]), .int .i64 t.la] 59)) = .ok v' w7 ∧
              Hid (w7.ownsRow w3.heap.size 59 4 v' (S.map (U1 t) ++ (S2.take (k + 1)).map (U2 t)).length (rcs ucs (S.map (U1 t) ++ (S2.take (k + 1)).map (U2 t))) ∧ Below w3.heap.size w3 w7 ∧ w7.ownsRow w.heap.size 9 1 (.slice (some ⟨blk, off, none⟩) S2.length cap2) S2.length (rcs scs S2)))) := by
            refine (xclone ⟨S2[k].toArray⟩ (by simpa [ByteArray.size] using hsz) wr.drew).mono fun e w6 hh => ?_
            obtain ⟨rfl, hb6'⟩ := hh
            have hb6 : Below wr.heap.size wr w6 := below_undrew hb6'
            have hT6 : Tm w6 p m1 m2 t := hT.below hb6
            have lk := hT6.lookA (s := ⟨S2[k].toArray⟩) hsz'
            have ho6 := own_below HO.out.1 hb6
            have hk6 := own_below HO.out.2.2 hb6
            have hB6 : Below w3.heap.size w3 w6 := HO.out.2.1.trans (hb6.mono HO.out.2.1.size)
            obtain ⟨v', w7, hr, ho, hg⟩ := app_gen (T := 59) (Sl := 28) (k := 4) (bytes := 40) Tryz.underlying28 info53 rfl (by omega) (ucs (U2 t S2[k])) rfl (ucs_one _) ho6 hB6.size (by omega) (by unfold maxLen; omega)
            refine ⟨_, rfl, rfl, hT6.b.cell 4, hT6.b.cell 2, by simpa using lk, v', w7, hr, ?_, ?_, ?_⟩
            · rw [takeL (U2 t) (S.map (U1 t)) S2 hkn, rcs_snoc, List.length_append]
              exact ho
            · exact (hB6.alloc hB6.size _).grown hg (by have := hB6.size; simp; omega) (fun j hj => (ho6.lt j hj).1)
            · exact own_keep (hk6.alloc _) hg (own_apart hk6 ho6 (by decide))
          have d4' : wr.cell? ⟨p, 4, none⟩ = some (.map (some m2)) := hT.b.cell 4
          have d5' : (Instr.lookup 85 (.map (some m2)) (.string ⟨S2[k].toArray⟩) false).run Tryz.prog wr.drew = .ok (.int .i64 (smA t.L S2[k])) wr.drew := by
            have := hT.drew.lookA (s := ⟨S2[k].toArray⟩) hsz'
            simpa using this
          have d2' : wr.cell? ⟨p, 2, none⟩ = some (.int .i64 t.la) := hT.b.cell 2
          clear hcs hr3 HO hb hT hsz hsz' hlen HZs HB4 HT hbl
          generalize smA t.L S2[k] = cv at *
          generalize (⟨S2[k].toArray⟩ : ByteArray) = x at *
          go_wp2_with fail
          go_region_law (first | (refine step_call _ (by rfl) 39 #[.string x] (by go_simp) _ HC2.out ?_; clear HC2; rintro v9 w6 ⟨rfl, k4, k2, lk, v', w7, hr, HY⟩) | (refine step_append_run _ (by rfl) _ _ 28 28 (by rfl) _ _ (by rfl) (by rfl) _ w7 hr ?_))
          all_goals
            go_wp2_with fail
            go_roundw
            case rel => exact ⟨k + 1, by omega, by simp, HY.out⟩
            case measure => simp [intOf]; omega
        · have hkz : ¬ (k : Int) < (S2.length : Int) := by omega
          have HF : Hid (UsP 59 4 ucs t.uses w (.returned u3) wr) := by
            have hr := HO.out
            rw [show k = S2.length by omega, List.take_length, ← HU.out] at hr
            exact ⟨_, rfl, own_mono hr.1 HB3'.out.size, HB3'.out.trans (hr.2.1.mono HB3'.out.size)⟩
          clear HO HZs HU
          go_wp2_with fail
          go_ret
          exact HF.out
end Go.Proofs.YtdfadcbchiogjaaGreat
