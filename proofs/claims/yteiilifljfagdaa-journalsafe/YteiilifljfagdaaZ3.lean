/- Law Safe. -/
import Derived.Test.YteiilifljfagdaaZ2
import Derived.WalkKit
import Derived.ProofKit
import Derived.Handy
import Derived.WalkLawsBesides
import Derived.WalkSpells
import Derived.BigQuiet
import Derived.BigCall
import Derived.Deep.QuietTactic
import Derived.Deep.Light
import Derived.Deep.OwnRows
import Derived.Laws.AppendOwnNone
import Derived.Laws.Strings3
import Derived.Laws.RangeAny
import Derived.Deep.RegionWith
import Derived.Lib.BitFns
import Derived.Lib.Walk
import Derived.Lib.Strings
import Derived.Lib.OthersKept
import Derived.Deep.CutBlock
import Derived.Deep.DeepCutAuto
import Derived.Deep.LoopGhost
import Derived.Deep.RegionHeld3
import Derived.Lib.SmallJoins
import Derived.Maps.AppendAt
import Derived.Laws.IdiomStrings
import Derived.Lib.AppendZeros
import Derived.Deep.WholeRow
import Derived.Laws.BitsAllLaws
import Derived.Lib.ConvBytes
import Derived.Deep.RegionLaw
namespace Go.Proofs.Yteiilifljfagdaa
open Go.RowKit
set_option linter.unusedVariables false
set_option linter.unusedSimpArgs false
structure Byts (w : World) (a : Option Addr) (n : Nat) : Prop where
  at_ : 0 < n → ∃ b off, a = some ⟨b, off, none⟩ ∧ b < w.heap.size ∧ ∀ j, j < n → ∃ x : Nat, x < 256 ∧ w.cell? ⟨b, off + j, none⟩ = some (.int .u8 x)
  len : n ≤ 140737488355328
structure Blws (w : World) (a : Option Addr) (n : Nat) (L : Nat → Int) (K : Nat → Nat → Int) : Prop where
  at_ : 0 < n → ∃ b off, a = some ⟨b, off, none⟩ ∧ b < w.heap.size ∧ ∀ j, j < n → w.cell? ⟨b, off + j * 5, none⟩ = some (.int .i64 (L j)) ∧ ∀ o, o < 4 → w.cell? ⟨b, off + j * 5 + 1 + o, none⟩ = some (.int .i64 (K j o))
  good : ∀ j, (-9223372036854775808 ≤ L j ∧ L j ≤ 9223372036854775807) ∧ ∀ o, -9223372036854775808 ≤ K j o ∧ K j o ≤ 9223372036854775807
  len : n ≤ 140737488355328
theorem Sf.mono {B nb k G H q : Nat} {w wr : World} {u : Value} {all : List ByteArray} (h : Sf B nb k G w wr q u all) (hG : G ≤ H) : Sf B nb k H w wr q u all := by
  obtain ⟨S, V, f, g, a, s, v, cs, h1, h2, h3, h4, h5, h6⟩ := h
  exact ⟨S, V, f, g, a, s, v, cs, h1, h2, h3, h4, by omega, h6⟩
theorem Ff.mono {B nb k G H : Nat} {w wr : World} {u : Value} {all : List ByteArray} {c : ByteArray} (h : Ff B nb k G w wr u all c) (hG : G ≤ H) : Ff B nb k H w wr u all c := by
  obtain ⟨S, V, f, g, a, s, cs, h1, h2, h3, h4, h5, h6⟩ := h
  exact ⟨S, V, f, g, a, s, cs, h1, h2, h3, h4, by omega, h6⟩
theorem Sf.low {B nb k G q : Nat} {w wr : World} {u : Value} {all : List ByteArray} (h : Sf B nb k G w wr q u all) : Below B w wr ∧ wr.ownsRow B 9 1 u all.length (scells all) ∧ Good all := by
  obtain ⟨S, V, f, g, a, s, v, cs, h1, h2, h3, h4, h5, h6⟩ := h
  exact ⟨h6.low, h6.row, h6.good⟩
theorem Ff.low {B nb k G : Nat} {w wr : World} {u : Value} {all : List ByteArray} {c : ByteArray} (h : Ff B nb k G w wr u all c) : Below B w wr ∧ k < nb := by
  obtain ⟨S, V, f, g, a, s, cs, h1, h2, h3, h4, h5, h6⟩ := h
  exact ⟨h6.low, h4⟩
theorem Fc.low {B k G : Nat} {l : Int} {w wr : World} {u : Value} {all : List ByteArray} {c : ByteArray} (h : Fc B k G l w wr u all c) : Below B w wr := by
  obtain ⟨S, V, f, g, a, s, cs, h1, h2, h3, h4, h5, h6, h7, h8⟩ := h
  exact h8.low
theorem Sf.bw {B nb k G q : Nat} {w wr : World} {u : Value} {all : List ByteArray} (h : Sf B nb k G w wr q u all) : B ≤ wr.heap.size := by
  obtain ⟨S, V, f, g, a, s, v, cs, h1, _⟩ := h
  exact h1.d.bw
theorem Sf.keep {B nb k G q : Nat} {w wr w' : World} {u : Value} {all : List ByteArray} (h : Sf B nb k G w wr q u all) (hb : Below wr.heap.size wr w') : Sf B nb k G w w' q u all := by
  obtain ⟨S, V, f, g, a, s, v, cs, h1, h2, h3, h4, h5, h6⟩ := h
  exact ⟨S, V, f, g, a, s, v, cs, h1.keep hb, h2, h3, h4, h5, h6.keep h1.d.bw hb⟩
theorem takeH {P : Program} {l : List Oper} {Q : Exit → Act → World → Prop} {md : Region.Mode} {S : World → Prop} {i : Nat} {oi : Oper} {v : Value} {fuel : Nat} {listed : Array Bool} {a : Act} {w : World} (hi : l[i]? = some oi)
    (hs : Region.noSelect l.toArray = true) (hf : Region.free md l.toArray listed i = true) (hr : (Region.ready md l.toArray listed).contains i = true)
    (hQ : ∀ c a w, Q (.panic c) (a.put oi.dst v) w → Q (.panic c) a w) (hy : YieldsIf P l.toArray S oi v a) (hS : S w)
    (h : wpAnyH P md l.toArray Q S fuel (listed.setIfInBounds i true) (a.put oi.dst v) w) : wpAnyH P md l.toArray Q S (fuel + 1) listed a w :=
  wpAnyH_take (by rw [List.getElem?_toArray]; exact hi) hs hf hr hQ hy hS h
theorem consH {P : Program} {l : List Oper} {Q : Exit → Act → World → Prop} {md : Region.Mode} {S : World → Prop} {fuel : Nat} {listed : Array Bool} {a : Act} {w : World} {i : Nat} {o : Oper} (hi : l[i]? = some o) (hr : Region.ready md l.toArray listed = [i])
    (h : ∀ K' : Act → World → Prop, Shut (∀ a w, S w → (S w → wpAnyH P md l.toArray Q S fuel (listed.setIfInBounds i true) a w) → K' a w) → if Region.wanted o (yielded l.toArray a.tmps) = true then Oper.wp P o a w K' Q else K' (a.put o.dst undef) w) :
    wpAnyH P md l.toArray Q S (fuel + 1) listed a w :=
  wpAnyH_ready hr (by simp) (AllReadyH.cons (by rw [List.getElem?_toArray]; exact hi) h AllReadyH.nil)
theorem consH2 {P : Program} {l : List Oper} {Q : Exit → Act → World → Prop} {md : Region.Mode} {S : World → Prop} {fuel : Nat} {listed : Array Bool} {a : Act} {w : World} {i j : Nat} {o o2 : Oper} (hi : l[i]? = some o) (hj : l[j]? = some o2) (hr : Region.ready md l.toArray listed = [i, j])
    (h : ∀ K' : Act → World → Prop, Shut (∀ a w, S w → (S w → wpAnyH P md l.toArray Q S fuel (listed.setIfInBounds i true) a w) → K' a w) → if Region.wanted o (yielded l.toArray a.tmps) = true then Oper.wp P o a w K' Q else K' (a.put o.dst undef) w)
    (h2 : ∀ K' : Act → World → Prop, Shut (∀ a w, S w → (S w → wpAnyH P md l.toArray Q S fuel (listed.setIfInBounds j true) a w) → K' a w) → if Region.wanted o2 (yielded l.toArray a.tmps) = true then Oper.wp P o2 a w K' Q else K' (a.put o2.dst undef) w) :
    wpAnyH P md l.toArray Q S (fuel + 1) listed a w :=
  wpAnyH_ready hr (by simp) (AllReadyH.cons (by rw [List.getElem?_toArray]; exact hi) h (AllReadyH.cons (by rw [List.getElem?_toArray]; exact hj) h2 AllReadyH.nil))
/-- append of texts to an empty literal -/
theorem ap1 {B : Nat} {w7 Y : World} {u : Value} {all : List ByteArray} (ho : w7.ownsRow B 9 1 u all.length (scells all)) (hl : all.length ≤ 30) {p0 : Nat} (hq : Below w7.heap.size w7 Y) (h0 : w7.heap.size ≤ p0) (hb : Y.heap[p0]? = some (.cells #[] 9 (0, 0))) :
    ∃ v' Y', (Builtin.append_ #[35, 35] 35 #[.slice (some ⟨p0, 0, none⟩) 0 0, u]).run Try.prog Y = .ok v' Y' ∧ (Y'.ownsRow w7.heap.size 9 1 v' all.length (scells all) ∧ Below w7.heap.size w7 Y' ∧ (∀ k, k < Y.heap.size → k ≠ p0 → Y'.heap[k]? = Y.heap[k]?) ∧ Y.heap.size ≤ Y'.heap.size) := by
  have h1 : Y.ownsRow w7.heap.size 9 1 (.slice (some ⟨p0, 0, none⟩) 0 0) ([] : List ByteArray).length (scells []) := ⟨rfl, .inr ⟨p0, 0, #[], rfl, h0, hb, Nat.le_refl _, by decide, rfl, rfl⟩⟩
  obtain ⟨v', Y', r1, r2, r3, _⟩ := app_txt h1 (own_keep ho hq) hq.size (by simp; omega)
  refine ⟨v', Y', r1, r2, hq.grown r3 hq.size (fun k hk => ?_), fun k hk hne => r3.block k hk ?_, r3.size⟩
  · have : p0 = k := Option.some.inj hk
    omega
  · intro e
    exact hne (Option.some.inj e)
theorem ap2 {w7 Y : World} {v' : Value} {all : List ByteArray} {c : ByteArray} {pc : Nat} (ho : Y.ownsRow w7.heap.size 9 1 v' all.length (scells all)) (hl : all.length ≤ 30) (hq : Below w7.heap.size w7 Y) (hc : Y.heap[pc]? = some (.cells #[.string c] 9 (0, 0))) :
    ∃ v2 Y2, (Builtin.append_ #[35, 35] 35 #[v', .slice (some ⟨pc, 0, none⟩) 1 1]).run Try.prog Y = .ok v2 Y2 ∧ (Y2.ownsRow w7.heap.size 9 1 v2 (all ++ [c]).length (scells (all ++ [c])) ∧ Below w7.heap.size w7 Y2) := by
  obtain ⟨v2, Y2, r1, r2, r3, _⟩ := app_txt ho (own_one hc) hq.size (by simp; omega)
  exact ⟨v2, Y2, r1, r2, hq.grown r3 hq.size (fun k hk => (ho.lt k hk).1)⟩
theorem step_append_ex {P : Program} (w : World) {ops : Array Oper} {o : Oper} {a : Act} {K : Act → World → Prop} {Q : Exit → Act → World → Prop} {E : Prop} (hw : Region.wanted o (yielded ops a.tmps) = true) (s x : Operand) (t tn : TypeId)
    (ho : o.op = .call { callee := .builtin .append, args := #[s, x], argTypes := #[t, tn] }) (vs vx : Value) (hs : a.eval s = vs) (hx : a.eval x = vx) (R : Value → World → Prop)
    (hr : ∃ v' w', (Builtin.append_ #[t, tn] o.type #[vs, vx]).run P w = .ok v' w' ∧ R v' w') (h : ∀ v' w', R v' w' → K (a.put o.dst v') w') :
    if Region.wanted o (yielded ops a.tmps) = true then Oper.wp P o a w K Q else E := by
  rw [if_pos hw]
  obtain ⟨v', w', h1, h2⟩ := hr
  exact Lib.wp_append_run w s x t tn ho vs vx hs hx v' w' h1 (h v' w' h2)
def bempty : ByteArray := ⟨#[]⟩
set_option maxHeartbeats 16000000 in
set_option maxRecDepth 100000 in
theorem lsafe (l0 : List ByteArray) (a0 a1 a2 : Option Addr) (c0 n1 c1 nb c2 : Nat) (L : Nat → Int) (K : Nat → Nat → Int) (w : World) (h0 : Strs w a0 l0) (h1 : Byts w a1 n1) (h2 : Blws w a2 nb L K) :
    Calls Try.prog 4 #[.slice a0 l0.length c0, .slice a1 n1 c1, .slice a2 nb c2] w (BB true w) := by
  have HS0 : Hid (Strs w a0 l0) := h0
  have HY1 : Hid (Byts w a1 n1) := h1
  have HL2 : Hid (Blws w a2 nb L K) := h2
  have hl0 := h0.len
  have hl1 := h1.len
  have hl2 := h2.len
  clear h0 h1 h2
  obtain ⟨B, hB⟩ : ∃ B, B = w.heap.size := ⟨_, rfl⟩
  have HBE : Hid (B = w.heap.size) := hB
  have HNw : Hid (Calls Try.prog 9 #[] w fun e w' => e = .returned (.pointer (some ⟨B, 0, none⟩)) ∧ (∃ V, Hid (Dk B w' B new V)) ∧ Hid (Below B w w')) := fnew w B hB
  clear hB
  go_enter Try.func4, Try.ntmps4
  go_wp2_with fail
  refine HNw.out.mono ?_
  rintro e w1 ⟨rfl, ⟨V1, hd⟩, HB1⟩
  have HF : Hid (Calls Try.prog 10 #[.pointer (some ⟨B, 0, none⟩), .string ⟨#[]⟩] w1 (FfP B B bempty w1)) := fformat hd.out bempty (by decide)
  clear hd HNw
  go_wp2_with fail
  refine HF.out.mono ?_
  rintro e w2 ⟨q2, S2, V2, rfl, HLv, hlm, hf2, _, _⟩
  have HS2 : Hid (Sf B nb 0 1 w w2 q2 (.slice none 0 0) []) := ⟨S2, V2, 0, 1, 0, bempty, .slice none 0 0, [], HLv.out, ⟨Nat.le_refl _, rfl, rfl⟩, fun k hk => (by cases hk), fun z => (by omega), by omega, ⟨(fun c hc => nomatch hc), World.ownsRow_nil _ _ _ _, HB1.out.trans hf2.out.1⟩⟩
  clear hlm hf2 HB1 HF HLv
  go_wp2_with fail
  go_loopw [8, 10, 11, 12] (fun jv u kv iv wr => ∃ (i k q : Nat) (all : List ByteArray), iv = .int .i64 i ∧ kv = .int .i64 k ∧ jv = .pointer (some ⟨q, 0, none⟩) ∧ i ≤ l0.length ∧ i ≤ 30 ∧ k ≤ nb ∧ all.length ≤ i ∧ Hid (Sf B nb k (2 * i + 1) w wr q u all)) (fun _ _ _ iv _ => l0.length - (Lib.intOf iv).toNat)
  case atStart => exact ⟨0, 0, q2, [], rfl, rfl, rfl, Nat.zero_le _, by omega, Nat.zero_le _, Nat.le_refl _, HS2⟩
  case round =>
    clear HS2
    obtain ⟨i, k, q, all, rfl, rfl, rfl, hi, hi30, hk, hal, HS⟩ := hrel
    generalize wr = W at *
    by_cases hin : i < l0.length ∧ i < 30
    · obtain ⟨hin, hi3⟩ := hin
      have hz1 : (i : Int) < (l0.length : Int) := by omega
      have hz2 : (i : Int) < 30 := by omega
      obtain ⟨b, off, rfl, hbl, hce⟩ := HS0.out.at_ (by omega)
      have HCE : Hid (∀ w', Below B w w' → w'.cell? ⟨b, off + i, none⟩ = some (.string l0[i])) := fun w' hb => (hb.cell (by rw [HBE.out]; exact hbl)).trans (hce i hin)
      have hc0 := HCE.out W HS.out.low.1
      obtain ⟨c, hc⟩ : ∃ c, l0[i] = c := ⟨_, rfl⟩
      rw [hc] at HCE hc0
      clear hce hc
      by_cases h4 : c.size ≤ 4096
      · have h4z : ¬ (4096 : Int) < (c.size : Int) := by omega
        have HZ : Hid (Calls Try.prog 22 #[.string c] W (ZrP c W)) := lzero c h4 W
        go_wp2_with fail
        refine HZ.out.mono ?_
        rintro e w3 ⟨gz, rfl, rfl, hgz⟩
        cases gz with
        | true =>
          go_wp2_with fail
          exact ⟨⟨i + 1, k, q, all, by go_num, rfl, rfl, by omega, by omega, hk, by omega, HS.out.mono (by omega)⟩, by simp [Lib.intOf]; omega⟩
        | false =>
          have HNZ : Hid (noZero c.data.toList) := hgz rfl
          clear hgz HZ
          go_upto_if 46 with fail
          go_step
          go_step
          go_step
          go_step
          go_step
          go_cut [11] from 47 to 62 (fun kv wx => kv = .int .i64 k ∧ Hid (Sf B nb k (2 * i + 1) w wx q u10 all))
          case first =>
            by_cases hkb : k < nb
            · have hkbz : (k : Int) < (nb : Int) := by omega
              by_cases hm : (i : Int) % 4 = 3
              · obtain ⟨b2, off2, rfl, hbl2, hce2⟩ := HL2.out.at_ (by omega)
                have hcl : W.cell? ⟨b2, off2 + k * 5, none⟩ = some (.int .i64 (L k)) := (HS.out.low.1.cell (by rw [HBE.out]; exact hbl2)).trans (hce2 k hkb).1
                have HLm : Hid (Calls Try.prog 23 #[.pointer (some ⟨B, 0, none⟩), .int .i64 (L k)] W fun e w' => e = .returned (.tuple #[]) ∧ Hid (Sf B nb k (2 * i + 1) w w' q u10 all)) := sf_limit HS.out hkb (L k) (HL2.out.good k).1.1 (HL2.out.good k).1.2
                have hm2 : ((i : Int) % 4 == 3) = true := by rw [beq_iff_eq]; exact hm
                clear hce2 hm
                go_wp2_with fail
                refine HLm.out.mono ?_
                rintro e w3 ⟨rfl, HS3⟩
                go_wp2_with fail
                go_meet
                exact ⟨rfl, HS3⟩
              · have hm2 : ((i : Int) % 4 == 3) = false := by rw [beq_eq_false_iff_ne]; exact hm
                clear hm
                go_wp2_with fail
                go_meet
                exact ⟨rfl, HS⟩
            · have hkbz : ¬ (k : Int) < (nb : Int) := by omega
              go_wp2_with fail
              go_meet
              exact ⟨rfl, HS⟩
          case rest =>
            obtain ⟨rfl, HS1⟩ := hcut
            clear HS hc0
            generalize wc = W1 at *
            go_step
            go_step
            go_cut [13] from 63 to 74 (fun bv wx => W1 = wx ∧ ∃ t : Bool, bv = .bool t)
            case first =>
              by_cases hit : i < n1
              · have hitz : (i : Int) < (n1 : Int) := by omega
                obtain ⟨b1, off1, rfl, hbl1, hce1⟩ := HY1.out.at_ (by omega)
                obtain ⟨x, hx, hcx⟩ := hce1 i hit
                have hcy : W1.cell? ⟨b1, off1 + i, none⟩ = some (.int .u8 x) := (HS1.out.low.1.cell (by rw [HBE.out]; exact hbl1)).trans hcx
                by_cases hm : (x : Int) % 3 = 0
                · have hm2 : ((x : Int) % 3 == 0) = true := by rw [beq_iff_eq]; exact hm
                  clear hm hcx hce1
                  go_wp2_with fail
                  go_meet
                  exact ⟨rfl, true, rfl⟩
                · have hm2 : ((x : Int) % 3 == 0) = false := by rw [beq_eq_false_iff_ne]; exact hm
                  clear hm hcx hce1
                  go_wp2_with fail
                  go_meet
                  exact ⟨rfl, false, rfl⟩
              · have hitz : ¬ (i : Int) < (n1 : Int) := by omega
                go_wp2_with fail
                go_meet
                exact ⟨rfl, false, rfl⟩
            case rest =>
              obtain ⟨rfl, tb, rfl⟩ := hcut
              go_upto_if 75 with fail
              go_cut [14] from 76 to 79 (fun fv wx => ∃ x : Int, fv = .int .i64 x ∧ ((x = 0 ∧ Hid (Sf B nb k (2 * i + 2) w wx q u10 all)) ∨ (¬ x = 0 ∧ Hid (Ff B nb k (2 * i + 2) w wx u10 all c))))
              case first =>
                cases tb with
                | false =>
                  go_wp2_with fail
                  go_meet
                  exact ⟨0, rfl, .inl ⟨rfl, HS1.out.mono (by omega)⟩⟩
                | true =>
                  obtain ⟨x10, c10, rfl⟩ := own_slice HS1.out.low.2.1
                  have HJo : Hid (Calls Try.prog 25 #[.slice x10 all.length c10] W1 fun e w' => ∃ J : ByteArray, e = .returned (.string J) ∧ W1 = w' ∧ J.data.toList = joined (ls all)) := by
                    obtain ⟨a', c', e1, hst⟩ := own_strs HS1.out.low.2.1 (by omega) (fun t ht => by have := (HS1.out.low.2.2 t ht).1; omega)
                    injection e1 with e1 _ e3
                    subst e1; subst e3
                    exact ljoined all x10 c10 W1 hst HS1.out.low.2.2 (by omega)
                  go_wp2_with fail
                  refine HJo.out.mono ?_
                  rintro e w3 ⟨J, rfl, rfl, hJ⟩
                  have HTu : Hid (Calls Try.prog 24 #[.pointer (some ⟨q, 0, none⟩), .string J] W1 (StP B nb k (2 * i + 1) q w (.slice x10 all.length c10) all c)) := sf_turn HS1.out (by omega) (by omega) J hJ c h4
                  clear hJ HJo
                  go_wp2_with fail
                  refine HTu.out.mono ?_
                  rintro e w3 ⟨x, rfl, hx⟩
                  have HX : Hid ((x = 0 ∧ Hid (Sf B nb k (2 * i + 1 + 1) w w3 q (.slice x10 all.length c10) all)) ∨ (¬ x = 0 ∧ Hid (Ff B nb k (2 * i + 1) w w3 (.slice x10 all.length c10) all c))) := hx
                  clear hx HTu
                  go_wp2_with fail
                  go_meet
                  refine ⟨x, rfl, ?_⟩
                  rcases HX.out with ⟨h1, h2⟩ | ⟨h1, h2⟩
                  · exact .inl ⟨h1, h2⟩
                  · exact .inr ⟨h1, h2.out.mono (by omega)⟩
              case rest =>
                obtain ⟨x, rfl, hx⟩ := hcut
                have HX : Hid ((x = 0 ∧ Hid (Sf B nb k (2 * i + 2) w wc q u10 all)) ∨ (¬ x = 0 ∧ Hid (Ff B nb k (2 * i + 2) w wc u10 all c))) := hx
                clear hx HS1
                generalize wc = W2 at *
                go_step
                go_step
                go_cut [14] from 80 to 87 (fun fv wx => ∃ y : Int, fv = .int .i64 y ∧ ((y = 0 ∧ Hid (Below B w wx) ∧ ∃ v2 w4, Hid ((Builtin.append_ #[35, 35] 35 #[u10, .slice (some ⟨wx.heap.size, 0, none⟩) 1 1]).run Try.prog (wx.alloc (.cells #[.string c] 9)) = .ok v2 w4) ∧ Hid (Sf B nb k (2 * i + 2) w w4 q v2 (all ++ [c]))) ∨ (¬ y = 0 ∧ Hid (Ff B nb k (2 * i + 2) w wx u10 all c))))
                case first =>
                  rcases HX.out with ⟨rfl, HS2⟩ | ⟨h1, HF2⟩
                  · have hc2 := HCE.out W2 HS2.out.low.1
                    have HAd : Hid (Calls Try.prog 26 #[.pointer (some ⟨q, 0, none⟩), .string c] W2 (SaP B nb k (2 * i + 2) q w u10 all c)) := sf_add HS2.out (by omega) (by omega) c h4 HNZ.out
                    clear HX
                    go_wp2_with fail
                    refine HAd.out.mono ?_
                    rintro e w3 ⟨y, rfl, hy⟩
                    have HY : Hid ((y = 0 ∧ Hid (Below B w w3) ∧ ∃ v2 w4, (Builtin.append_ #[35, 35] 35 #[u10, .slice (some ⟨w3.heap.size, 0, none⟩) 1 1]).run Try.prog (w3.alloc (.cells #[.string c] 9)) = .ok v2 w4 ∧ Hid (Sf B nb k (2 * i + 2) w w4 q v2 (all ++ [c]))) ∨ (¬ y = 0 ∧ Hid (Ff B nb k (2 * i + 2) w w3 u10 all c))) := hy
                    clear hy HAd
                    go_wp2_with fail
                    go_meet
                    exact ⟨y, rfl, HY.out⟩
                  · have hx1 : (x == 0) = false := by simpa using h1
                    have hx2 : (x != 0) = true := by simpa using h1
                    have HX1 : Hid (¬ x = 0) := h1
                    clear h1 HX
                    go_wp2_with fail
                    go_meet
                    exact ⟨x, rfl, .inr ⟨HX1.out, HF2⟩⟩
                case rest =>
                  obtain ⟨y, rfl, hy⟩ := hcut
                  clear HX
                  rcases hy with ⟨rfl, hbw, v2, w4, HR, HS4⟩ | ⟨h1, HF2⟩
                  · have hc2 := HCE.out wc hbw.out
                    clear hbw
                    go_wp2_with (at_builtin; refine Lib.wpList_append_run _ rfl _ _ 35 35 rfl _ _ rfl rfl _ w4 HR.out ?_)
                    exact ⟨⟨i + 1, k, q, all ++ [c], by go_num, rfl, rfl, by omega, by omega, hk, by rw [List.length_append, List.length_singleton]; omega, HS4.out.mono (by omega)⟩, by simp [Lib.intOf]; omega⟩
                  · have hx1 : (y == 0) = false := by simpa using h1
                    have hx2 : (y != 0) = true := by simpa using h1
                    have HX1 : Hid (¬ y = 0) := h1
                    have hkb := HF2.out.low.2
                    have hkbz : ¬ (nb : Int) ≤ (k : Int) := by omega
                    have hkbz2 : (k : Int) < (nb : Int) := by omega
                    clear h1
                    generalize wc = W3 at *
                    have hnb : 0 < nb := by omega
                    obtain ⟨b2, off2, rfl, hbl2, hce2⟩ := HL2.out.at_ hnb
                    have HCL : Hid (∀ w' j, Below B w w' → j < nb → w'.cell? ⟨b2, off2 + j * 5, none⟩ = some (.int .i64 (L j)) ∧ w'.cell? ⟨b2, off2 + j * 5 + 1, none⟩ = some (.int .i64 (K j 0)) ∧ w'.cell? ⟨b2, off2 + j * 5 + 1 + 1, none⟩ = some (.int .i64 (K j 1)) ∧ w'.cell? ⟨b2, off2 + j * 5 + 1 + 2, none⟩ = some (.int .i64 (K j 2)) ∧ w'.cell? ⟨b2, off2 + j * 5 + 1 + 3, none⟩ = some (.int .i64 (K j 3))) := by
                      intro w' j hb hj
                      have hh : ∀ o, w'.cell? ⟨b2, o, none⟩ = w.cell? ⟨b2, o, none⟩ := fun o => hb.cell (by rw [HBE.out]; exact hbl2)
                      obtain ⟨e1, e2⟩ := hce2 j hj
                      exact ⟨(hh _).trans e1, (hh _).trans (e2 0 (by omega)), (hh _).trans (e2 1 (by omega)), (hh _).trans (e2 2 (by omega)), (hh _).trans (e2 3 (by omega))⟩
                    clear hce2
                    obtain ⟨m0, m1, m2, m3, m4⟩ := HCL.out W3 k HF2.out.low.1 hkb
                    have HCr : Hid (Calls Try.prog 27 #[.pointer (some ⟨B, 0, none⟩), .agg #[.int .i64 (K k 0), .int .i64 (K k 1), .int .i64 (K k 2), .int .i64 (K k 3)]] W3 fun e w' => e = .returned (.tuple #[]) ∧ Hid (Fc B (k + 1) (2 * i + 2) (-1) w w' u10 all c)) := ff_crash HF2.out (K k) (HL2.out.good k).2
                    clear HF2
                    go_wp2_with fail
                    refine HCr.out.mono ?_
                    rintro e w5 ⟨rfl, HFc⟩
                    clear HCr m0 m1 m2 m3 m4
                    go_wp2_with fail
                    go_loopw [11] (fun kv wi => ∃ k2 : Nat, kv = .int .i64 k2 ∧ k2 ≤ nb ∧ Hid (Fc B k2 (2 * i + 2) (-1) w wi u10 all c)) (fun kv _ => nb - (Lib.intOf kv).toNat)
                    case atStart => exact ⟨k + 1, by go_num, by omega, HFc⟩
                    case round =>
                      clear HFc
                      obtain ⟨k2, rfl, hk2, HFc⟩ := hrel
                      generalize wr = W5 at *
                      by_cases hkk : k2 < nb
                      · have hkkz : (k2 : Int) < (nb : Int) := by omega
                        obtain ⟨m0, m1, m2, m3, m4⟩ := HCL.out W5 k2 HFc.out.low hkk
                        cases hm2 : ((L k2).tmod 5 == 0) with
                        | true =>
                          have HLi : Hid (Calls Try.prog 23 #[.pointer (some ⟨B, 0, none⟩), .int .i64 1] W5 fun e w' => e = .returned (.tuple #[]) ∧ Hid (Fc B k2 (2 * i + 2) 1 w w' u10 all c)) := fc_limit HFc.out
                          clear HFc
                          go_wp2_with fail
                          refine HLi.out.mono ?_
                          rintro e w6 ⟨rfl, HF6⟩
                          have HRo : Hid (Calls Try.prog 28 #[.pointer (some ⟨B, 0, none⟩)] w6 fun e w' => ∃ v y, e = .returned (.tuple #[v, y]) ∧ Hid (Ff B nb k2 (2 * i + 2) w w' u10 all c)) := fc_reopen HF6.out hkk
                          clear HLi HF6 m0 m1 m2 m3 m4
                          go_wp2_with fail
                          refine HRo.out.mono ?_
                          rintro e w7 ⟨vv, yy, rfl, HF7⟩
                          obtain ⟨m0, m1, m2, m3, m4⟩ := HCL.out w7 k2 HF7.out.low.1 hkk
                          have HCr : Hid (Calls Try.prog 27 #[.pointer (some ⟨B, 0, none⟩), .agg #[.int .i64 (K k2 0), .int .i64 (K k2 1), .int .i64 (K k2 2), .int .i64 (K k2 3)]] w7 fun e w' => e = .returned (.tuple #[]) ∧ Hid (Fc B (k2 + 1) (2 * i + 2) (-1) w w' u10 all c)) := ff_crash HF7.out (K k2) (HL2.out.good k2).2
                          clear HF7 HRo
                          go_wp2_with fail
                          refine HCr.out.mono ?_
                          rintro e w8 ⟨rfl, HF8⟩
                          go_wp2_with fail
                          exact ⟨⟨k2 + 1, by go_num, by omega, HF8⟩, by simp [Lib.intOf]; omega⟩
                        | false =>
                          have HOp : Hid (Calls Try.prog 28 #[.pointer (some ⟨B, 0, none⟩)] W5 (SoP B nb k2 (2 * i + 2) w u10 all c)) := fc_open HFc.out h4 HNZ.out
                          go_wp2_with fail
                          refine HOp.out.mono ?_
                          rintro e w6 ⟨q6, nw, rfl, HNw, HGn, HO6, HLv6, HB6⟩
                          clear HOp HFc
                          have hnl : nw.length ≤ all.length + 1 := by
                            rcases HNw.out with e | e
                            · rw [e]; omega
                            · rw [e, List.length_append, List.length_singleton]; omega
                          have HTo : Hid (Calls Try.prog 29 #[.pointer (some ⟨q6, 0, none⟩)] w6 fun e w' => ∃ v, e = .returned v ∧ Hid (w'.ownsRow B 9 1 u10 all.length (scells all)) ∧ Hid (w'.ownsRow B 9 1 v nw.length (scells nw)) ∧ Hid (Sf B nb k2 (2 * (i + 1) + 1) w w' q6 v nw)) := by
                            obtain ⟨S, V, f, g, a, s, v, cs, hl, ht, hlm, hg⟩ := HLv6.out
                            refine (ltold w6 hl.j ht HGn.out (by omega) hl.d.bw).mono ?_
                            rintro e w' ⟨v7, rfl, ho7, hb7⟩
                            have ho8 := own_base ho7.out hl.d.bw
                            refine ⟨v7, rfl, own_keep HO6.out hb7.out, ho8, S, V, f, g, a, s, v, cs, hl.keep hb7.out, ht, ?_, fun z => by omega, by omega, ⟨HGn.out, ho8, HB6.out.trans (hb7.out.mono hl.d.bw)⟩⟩
                            intro j hj e2
                            have e3 := (ho7.out.lt j hj).1
                            have e4 := (hl.j.own.lt j e2).2
                            omega
                          clear HLv6 HO6 HB6 HGn
                          go_wp2_with fail
                          refine HTo.out.mono ?_
                          rintro e w7 ⟨v7, rfl, HO7, HOn, HS7⟩
                          clear HTo
                          obtain ⟨x7, c7, rfl⟩ := own_slice HOn.out
                          obtain ⟨x10, c10, rfl⟩ := own_slice HO7.out
                          have HC7 := HCE.out w7 HS7.out.low.1
                          have HX7 : Hid (nw = all ∨ nw = all ++ [c]) := HNw
                          rcases HX7.out with rfl | rfl
                          · have hst7 := (own_strs HOn.out (by omega) (fun t ht => by have := (HS7.out.low.2.2 t ht).1; omega))
                            obtain ⟨x7', c7', e1, hs7⟩ := hst7
                            injection e1 with e1 _ e3
                            subst e1; subst e3
                            obtain ⟨x10', c10', e1, hs10⟩ := (own_strs HO7.out (by omega) (fun t ht => by have := (HS7.out.low.2.2 t ht).1; omega))
                            injection e1 with e1 _ e3
                            subst e1; subst e3
                            have HQ : Hid (∀ n, Calls Try.prog 18 #[.slice x7 nw.length c7, .slice x10 nw.length c10] (w7.drewN n) fun e w'' => e = .returned (.bool true) ∧ ∃ m, w'' = w7.drewN m) := fun n => by
                              refine (rtextsQ nw x7 x10 c7 c10 (w7.drewN n) (hs7.below (bdrew (Below.refl _ w7) n)) (hs10.below (bdrew (Below.refl _ w7) n))).mono ?_
                              rintro e w'' ⟨h1, m, h2⟩
                              exact ⟨h1, n + m, by rw [h2]; first | rfl | exact (World.drewN_drewN ..)⟩
                            clear hs7 hs10 HX7 HNw hnl
                            go_wp2_with fail
                            go_quiet ((go_at_call 18; exact HQ.out _))
                            have HS8 : Hid (Sf B nb k2 (2 * (i + 1) + 1) w (w7.drewN nq) q6 (.slice x7 nw.length c7) nw) := HS7.out.keep (bdrew (Below.refl _ w7) nq)
                            generalize w7.drewN nq = w8 at *
                            go_wp2_with fail
                            exact ⟨⟨i + 1, k2, q6, nw, by go_num, rfl, rfl, by omega, by omega, hk2, by omega, HS8⟩, by simp [Lib.intOf]; omega⟩
                          · have hln : (all ++ [c]).length = all.length + 1 := by rw [List.length_append, List.length_singleton]
                            rw [hln] at HS7
                            have HOn2 : Hid (w7.ownsRow B 9 1 (.slice x7 (all.length + 1) c7) (all ++ [c]).length (scells (all ++ [c]))) := by have := HOn.out; rw [hln] at this ⊢; exact this
                            have HQ : Hid (∀ W', Calls Try.prog 18 #[.slice x7 (all.length + 1) c7, .slice x10 all.length c10] W' fun e w'' => e = .returned (.bool false) ∧ W' = w'') := fun W' => rtexts_ne (all.length + 1) all.length x7 x10 c7 c10 W' (by omega) (by omega) (by omega)
                            have h2c : Hid (((w7.alloc (.cells #[] 9)).alloc (.cells #[.string c] 9)).heap[w7.heap.size + 1]? = some (.cells #[.string c] 9 (0, 0))) := by have := heap_alloc_new (w7.alloc (.cells #[] 9)) (.cells #[.string c] 9); unfold Hid; simpa using this
                            have q7a : Hid (Below w7.heap.size w7 w7.drew) := bdrew1 (Below.refl _ w7)
                            have q7s : Hid (∀ X : World, Below w7.heap.size w7 X → X.cell? ⟨b, off + i, none⟩ = some (.string c)) := fun X h => HCE.out X (HS7.out.low.1.trans (h.mono HS7.out.bw))
                            have HTx : Hid (∀ (v2 : Value) (Y : World), Y.ownsRow w7.heap.size 9 1 v2 (all ++ [c]).length (scells (all ++ [c])) → Below w7.heap.size w7 Y → Calls Try.prog 18 #[.slice x7 (all.length + 1) c7, v2] Y fun e w'' => e = .returned (.bool true) ∧ Below Y.heap.size Y w'') := by
                              intro v2 Y ho hq
                              have hz7 : ∀ t ∈ all ++ [c], t.size ≤ 1048576 := fun t ht => by have := (HS7.out.low.2.2 t ht).1; omega
                              obtain ⟨x7', c7', e1, hs7⟩ := own_strs (own_keep HOn2.out hq) (by rw [hln]; omega) hz7
                              injection e1 with e1 _ e3
                              subst e1; subst e3
                              obtain ⟨x2, c2', rfl, hs2⟩ := own_strs ho (by rw [hln]; omega) hz7
                              have := rtexts (all ++ [c]) x7 x2 c7 c2' Y hs7 hs2
                              rw [hln] at this ⊢
                              exact this
                            clear HX7 HNw HOn HOn2 HCE HNZ hnl
                            go_wp2_with fail
                            refine wp_region_held (S := fun w' => Below w7.heap.size w7 w') (by kernel_rfl) ?_
                            change wpAnyH _ _ _ _ _ 18 #[false, false, false, false, false, false, false, false, false, false, false, false, false, false, false, false, false, false] _ _
                            have hS : Below w7.heap.size w7 w7.drew := q7a.out
                            refine takeH (fuel := 17) (i := 0) (v := .slice x7 (all.length + 1) c7) rfl (by kernel_rfl) (by kernel_rfl) (by kernel_rfl) (fun _ _ _ h => h) (Or.inl ⟨rfl, fun _ _ => rfl⟩) hS ?_
                            simp only [Act.put, List.setIfInBounds_toArray, List.set_cons_zero, List.set_cons_succ]
                            refine takeH (fuel := 16) (i := 1) (v := .slice x10 all.length c10) rfl (by kernel_rfl) (by kernel_rfl) (by kernel_rfl) (fun _ _ _ h => h) (Or.inl ⟨rfl, fun _ _ => rfl⟩) hS ?_
                            simp only [Act.put, List.setIfInBounds_toArray, List.set_cons_zero, List.set_cons_succ]
                            refine consH (fuel := 15) (i := 2) rfl (by kernel_rfl) (fun K hK => ?_)
                            rw [if_pos (by rfl)]
                            go_simp
                            refine (HQ.out _).mono ?_
                            rintro e we ⟨rfl, rfl⟩
                            refine hK.out _ _ hS (fun hS => ?_)
                            clear hK
                            try simp only [Act.put, List.setIfInBounds_toArray, List.set_cons_zero, List.set_cons_succ]
                            refine takeH (fuel := 14) (i := 3) (v := .bool true) rfl (by kernel_rfl) (by kernel_rfl) (by kernel_rfl) (fun _ _ _ h => h) (Or.inl ⟨rfl, fun w _ => by go_simp⟩) hS ?_
                            simp only [Act.put, List.setIfInBounds_toArray, List.set_cons_zero, List.set_cons_succ]
                            refine takeH (fuel := 13) (i := 4) (v := .bool true) rfl (by kernel_rfl) (by kernel_rfl) (by kernel_rfl) (fun _ _ _ h => h) (Or.inl ⟨rfl, fun _ _ => rfl⟩) hS ?_
                            simp only [Act.put, List.setIfInBounds_toArray, List.set_cons_zero, List.set_cons_succ]
                            refine takeH (fuel := 12) (i := 5) (v := .slice x7 (all.length + 1) c7) rfl (by kernel_rfl) (by kernel_rfl) (by kernel_rfl) (fun _ _ _ h => h) (Or.inl ⟨rfl, fun _ _ => rfl⟩) hS ?_
                            simp only [Act.put, List.setIfInBounds_toArray, List.set_cons_zero, List.set_cons_succ]
                            refine takeH (fuel := 11) (i := 7) (v := .slice x10 all.length c10) rfl (by kernel_rfl) (by kernel_rfl) (by kernel_rfl) (fun _ _ _ h => h) (Or.inl ⟨rfl, fun _ _ => rfl⟩) hS ?_
                            simp only [Act.put, List.setIfInBounds_toArray, List.set_cons_zero, List.set_cons_succ]
                            refine takeH (fuel := 10) (i := 9) (v := .slice (some ⟨b, off, none⟩) l0.length c0) rfl (by kernel_rfl) (by kernel_rfl) (by kernel_rfl) (fun _ _ _ h => h) (Or.inl ⟨rfl, fun _ _ => rfl⟩) hS ?_
                            simp only [Act.put, List.setIfInBounds_toArray, List.set_cons_zero, List.set_cons_succ]
                            refine takeH (fuel := 9) (i := 10) (v := .int .i64 i) rfl (by kernel_rfl) (by kernel_rfl) (by kernel_rfl) (fun _ _ _ h => h) (Or.inl ⟨rfl, fun _ _ => rfl⟩) hS ?_
                            simp only [Act.put, List.setIfInBounds_toArray, List.set_cons_zero, List.set_cons_succ]
                            refine takeH (fuel := 8) (i := 11) (v := .pointer (some ⟨b, off + i, none⟩)) rfl (by kernel_rfl) (by kernel_rfl) (by kernel_rfl) (fun _ _ _ h => h) (Or.inl ⟨rfl, fun w _ => by go_simp⟩) hS ?_
                            simp only [Act.put, List.setIfInBounds_toArray, List.set_cons_zero, List.set_cons_succ]
                            refine takeH (fuel := 7) (i := 12) (v := .string c) rfl (by kernel_rfl) (by kernel_rfl) (by kernel_rfl) (fun _ _ _ h => h) (Or.inl ⟨rfl, fun w hw => by have hcw := q7s.out w hw; go_simp⟩) hS ?_
                            simp only [Act.put, List.setIfInBounds_toArray, List.set_cons_zero, List.set_cons_succ]
                            refine consH2 (fuel := 6) (i := 6) (j := 13) rfl rfl (by kernel_rfl) (fun K hK => ?_) (fun K hK => ?_)
                            · rw [if_pos (by rfl)]
                              go_simp
                              refine hK.out _ _ (hS.alloc hS.size _) (fun hS => ?_)
                              clear hK
                              try simp only [Act.put, List.setIfInBounds_toArray, List.set_cons_zero, List.set_cons_succ]
                              refine consH2 (fuel := 5) (i := 8) (j := 13) rfl rfl (by kernel_rfl) (fun K hK => ?_) (fun K hK => ?_)
                              · rw [if_pos (by rfl)]
                                obtain ⟨v8, Y8, hr8, ho8, hq8, hk8, hz8⟩ := ap1 HO7.out (by omega) hS (Nat.le_refl _) (show (w7.drew.alloc (.cells #[] 9)).heap[w7.heap.size]? = _ from heap_alloc_new w7.drew _)
                                refine Lib.wp_append_run _ _ _ 35 35 (by rfl) _ _ (by rfl) (by rfl) v8 Y8 hr8 ?_
                                refine hK.out _ _ hq8 (fun hS => ?_)
                                clear hK hr8
                                try simp only [Act.put, List.setIfInBounds_toArray, List.set_cons_zero, List.set_cons_succ]
                                refine consH (fuel := 4) (i := 13) rfl (by kernel_rfl) (fun K hK => ?_)
                                rw [if_pos (by rfl)]
                                go_simp
                                refine hK.out _ _ (hS.alloc hS.size _) (fun hS => ?_)
                                clear hK
                                try simp only [Act.put, List.setIfInBounds_toArray, List.set_cons_zero, List.set_cons_succ]
                                refine consH (fuel := 3) (i := 14) rfl (by kernel_rfl) (fun K hK => ?_)
                                rw [if_pos (by rfl)]
                                obtain ⟨v2, Y2, hr2, ho14, hq14⟩ := ap2 (own_keep ho8 (below_new Y8 _)) (by omega) hS (heap_alloc_new Y8 _)
                                refine Lib.wp_append_run _ _ _ 35 35 (by rfl) _ _ (by rfl) (by rfl) v2 Y2 hr2 ?_
                                refine hK.out _ _ hq14 (fun hS => ?_)
                                clear hK hr2
                                try simp only [Act.put, List.setIfInBounds_toArray, List.set_cons_zero, List.set_cons_succ]
                                refine consH (fuel := 2) (i := 15) rfl (by kernel_rfl) (fun K hK => ?_)
                                rw [if_pos (by rfl)]
                                go_simp
                                refine (HTx.out v2 Y2 ho14 hq14).mono ?_
                                rintro e we ⟨rfl, hq15⟩
                                refine hK.out _ _ (hq14.trans (hq15.mono hq14.size)) (fun hS => ?_)
                                clear hK
                                try simp only [Act.put, List.setIfInBounds_toArray, List.set_cons_zero, List.set_cons_succ]
                                refine takeH (fuel := 1) (i := 16) (v := .bool false) rfl (by kernel_rfl) (by kernel_rfl) (by kernel_rfl) (fun _ _ _ h => h) (Or.inl ⟨rfl, fun w _ => by go_simp⟩) hS ?_
                                simp only [Act.put, List.setIfInBounds_toArray, List.set_cons_zero, List.set_cons_succ]
                                refine takeH (fuel := 0) (i := 17) (v := .bool false) rfl (by kernel_rfl) (by kernel_rfl) (by kernel_rfl) (fun _ _ _ h => h) (Or.inl ⟨rfl, fun w _ => by go_simp⟩) hS ?_
                                simp only [Act.put, List.setIfInBounds_toArray, List.set_cons_zero, List.set_cons_succ]
                                refine wpAnyH_done (by kernel_rfl) ?_ _
                                have HS8 : Hid (Sf B nb k2 (2 * (i + 1) + 1) w we q6 (.slice x7 (all.length + 1) c7) (all ++ [c])) := HS7.out.keep hS
                                clear hS hq15 hq14 ho14 hq8 ho8 hk8 hz8 HTx HQ q7a q7s
                                go_wp2_with fail
                                exact ⟨⟨i + 1, k2, q6, all ++ [c], by go_num, rfl, rfl, by omega, by omega, hk2, by rw [hln]; omega, HS8⟩, by simp [Lib.intOf]; omega⟩
                              · rw [if_pos (by rfl)]
                                go_simp
                                refine hK.out _ _ (hS.alloc hS.size _) (fun hS => ?_)
                                clear hK
                                try simp only [Act.put, List.setIfInBounds_toArray, List.set_cons_zero, List.set_cons_succ]
                                refine consH (fuel := 4) (i := 8) rfl (by kernel_rfl) (fun K hK => ?_)
                                rw [if_pos (by rfl)]
                                obtain ⟨v8, Y8, hr8, ho8, hq8, hk8, hz8⟩ := ap1 HO7.out (by omega) hS (Nat.le_refl _) (show ((w7.drew.alloc (.cells #[] 9)).alloc (.cells #[.string c] 9)).heap[w7.heap.size]? = _ from (Below.heap_alloc _ _ _ (by simp)).trans (heap_alloc_new w7.drew _))
                                refine Lib.wp_append_run _ _ _ 35 35 (by rfl) _ _ (by rfl) (by rfl) v8 Y8 hr8 ?_
                                refine hK.out _ _ hq8 (fun hS => ?_)
                                clear hK hr8
                                try simp only [Act.put, List.setIfInBounds_toArray, List.set_cons_zero, List.set_cons_succ]
                                refine consH (fuel := 3) (i := 14) rfl (by kernel_rfl) (fun K hK => ?_)
                                rw [if_pos (by rfl)]
                                obtain ⟨v2, Y2, hr2, ho14, hq14⟩ := ap2 ho8 (by omega) hS (show Y8.heap[w7.heap.size + 1]? = _ from (hk8 _ (by simp) (by omega)).trans h2c.out)
                                refine Lib.wp_append_run _ _ _ 35 35 (by rfl) _ _ (by rfl) (by rfl) v2 Y2 hr2 ?_
                                refine hK.out _ _ hq14 (fun hS => ?_)
                                clear hK hr2
                                try simp only [Act.put, List.setIfInBounds_toArray, List.set_cons_zero, List.set_cons_succ]
                                refine consH (fuel := 2) (i := 15) rfl (by kernel_rfl) (fun K hK => ?_)
                                rw [if_pos (by rfl)]
                                go_simp
                                refine (HTx.out v2 Y2 ho14 hq14).mono ?_
                                rintro e we ⟨rfl, hq15⟩
                                refine hK.out _ _ (hq14.trans (hq15.mono hq14.size)) (fun hS => ?_)
                                clear hK
                                try simp only [Act.put, List.setIfInBounds_toArray, List.set_cons_zero, List.set_cons_succ]
                                refine takeH (fuel := 1) (i := 16) (v := .bool false) rfl (by kernel_rfl) (by kernel_rfl) (by kernel_rfl) (fun _ _ _ h => h) (Or.inl ⟨rfl, fun w _ => by go_simp⟩) hS ?_
                                simp only [Act.put, List.setIfInBounds_toArray, List.set_cons_zero, List.set_cons_succ]
                                refine takeH (fuel := 0) (i := 17) (v := .bool false) rfl (by kernel_rfl) (by kernel_rfl) (by kernel_rfl) (fun _ _ _ h => h) (Or.inl ⟨rfl, fun w _ => by go_simp⟩) hS ?_
                                simp only [Act.put, List.setIfInBounds_toArray, List.set_cons_zero, List.set_cons_succ]
                                refine wpAnyH_done (by kernel_rfl) ?_ _
                                have HS8 : Hid (Sf B nb k2 (2 * (i + 1) + 1) w we q6 (.slice x7 (all.length + 1) c7) (all ++ [c])) := HS7.out.keep hS
                                clear hS hq15 hq14 ho14 hq8 ho8 hk8 hz8 HTx HQ q7a q7s
                                go_wp2_with fail
                                exact ⟨⟨i + 1, k2, q6, all ++ [c], by go_num, rfl, rfl, by omega, by omega, hk2, by rw [hln]; omega, HS8⟩, by simp [Lib.intOf]; omega⟩
                            · rw [if_pos (by rfl)]
                              go_simp
                              refine hK.out _ _ (hS.alloc hS.size _) (fun hS => ?_)
                              clear hK
                              try simp only [Act.put, List.setIfInBounds_toArray, List.set_cons_zero, List.set_cons_succ]
                              refine consH (fuel := 5) (i := 6) rfl (by kernel_rfl) (fun K hK => ?_)
                              rw [if_pos (by rfl)]
                              go_simp
                              refine hK.out _ _ (hS.alloc hS.size _) (fun hS => ?_)
                              clear hK
                              try simp only [Act.put, List.setIfInBounds_toArray, List.set_cons_zero, List.set_cons_succ]
                              refine consH (fuel := 4) (i := 8) rfl (by kernel_rfl) (fun K hK => ?_)
                              rw [if_pos (by rfl)]
                              obtain ⟨v8, Y8, hr8, ho8, hq8, hk8, hz8⟩ := ap1 HO7.out (by omega) hS (by omega) (show ((w7.drew.alloc (.cells #[.string c] 9)).alloc (.cells #[] 9)).heap[w7.heap.size + 1]? = _ from by have := heap_alloc_new (w7.drew.alloc (.cells #[.string c] 9)) (.cells #[] 9); simpa using this)
                              refine Lib.wp_append_run _ _ _ 35 35 (by rfl) _ _ (by rfl) (by rfl) v8 Y8 hr8 ?_
                              refine hK.out _ _ hq8 (fun hS => ?_)
                              clear hK hr8
                              try simp only [Act.put, List.setIfInBounds_toArray, List.set_cons_zero, List.set_cons_succ]
                              refine consH (fuel := 3) (i := 14) rfl (by kernel_rfl) (fun K hK => ?_)
                              rw [if_pos (by rfl)]
                              obtain ⟨v2, Y2, hr2, ho14, hq14⟩ := ap2 ho8 (by omega) hS (show Y8.heap[w7.heap.size]? = _ from (hk8 _ (by simp; omega) (by omega)).trans ((Below.heap_alloc _ _ _ (by simp)).trans (heap_alloc_new w7.drew _)))
                              refine Lib.wp_append_run _ _ _ 35 35 (by rfl) _ _ (by rfl) (by rfl) v2 Y2 hr2 ?_
                              refine hK.out _ _ hq14 (fun hS => ?_)
                              clear hK hr2
                              try simp only [Act.put, List.setIfInBounds_toArray, List.set_cons_zero, List.set_cons_succ]
                              refine consH (fuel := 2) (i := 15) rfl (by kernel_rfl) (fun K hK => ?_)
                              rw [if_pos (by rfl)]
                              go_simp
                              refine (HTx.out v2 Y2 ho14 hq14).mono ?_
                              rintro e we ⟨rfl, hq15⟩
                              refine hK.out _ _ (hq14.trans (hq15.mono hq14.size)) (fun hS => ?_)
                              clear hK
                              try simp only [Act.put, List.setIfInBounds_toArray, List.set_cons_zero, List.set_cons_succ]
                              refine takeH (fuel := 1) (i := 16) (v := .bool false) rfl (by kernel_rfl) (by kernel_rfl) (by kernel_rfl) (fun _ _ _ h => h) (Or.inl ⟨rfl, fun w _ => by go_simp⟩) hS ?_
                              simp only [Act.put, List.setIfInBounds_toArray, List.set_cons_zero, List.set_cons_succ]
                              refine takeH (fuel := 0) (i := 17) (v := .bool false) rfl (by kernel_rfl) (by kernel_rfl) (by kernel_rfl) (fun _ _ _ h => h) (Or.inl ⟨rfl, fun w _ => by go_simp⟩) hS ?_
                              simp only [Act.put, List.setIfInBounds_toArray, List.set_cons_zero, List.set_cons_succ]
                              refine wpAnyH_done (by kernel_rfl) ?_ _
                              have HS8 : Hid (Sf B nb k2 (2 * (i + 1) + 1) w we q6 (.slice x7 (all.length + 1) c7) (all ++ [c])) := HS7.out.keep hS
                              clear hS hq15 hq14 ho14 hq8 ho8 hk8 hz8 HTx HQ q7a q7s
                              go_wp2_with fail
                              exact ⟨⟨i + 1, k2, q6, all ++ [c], by go_num, rfl, rfl, by omega, by omega, hk2, by rw [hln]; omega, HS8⟩, by simp [Lib.intOf]; omega⟩

                      · have hkkz : ¬ (k2 : Int) < (nb : Int) := by omega
                        have HOp : Hid (Calls Try.prog 28 #[.pointer (some ⟨B, 0, none⟩)] W5 (SoP B nb k2 (2 * i + 2) w u10 all c)) := fc_open HFc.out h4 HNZ.out
                        go_wp2_with fail
                        refine HOp.out.mono ?_
                        rintro e w6 ⟨q6, nw, rfl, HNw, HGn, HO6, HLv6, HB6⟩
                        clear HOp HFc
                        have hnl : nw.length ≤ all.length + 1 := by
                          rcases HNw.out with e | e
                          · rw [e]; omega
                          · rw [e, List.length_append, List.length_singleton]; omega
                        have HTo : Hid (Calls Try.prog 29 #[.pointer (some ⟨q6, 0, none⟩)] w6 fun e w' => ∃ v, e = .returned v ∧ Hid (w'.ownsRow B 9 1 u10 all.length (scells all)) ∧ Hid (w'.ownsRow B 9 1 v nw.length (scells nw)) ∧ Hid (Sf B nb k2 (2 * (i + 1) + 1) w w' q6 v nw)) := by
                          obtain ⟨S, V, f, g, a, s, v, cs, hl, ht, hlm, hg⟩ := HLv6.out
                          refine (ltold w6 hl.j ht HGn.out (by omega) hl.d.bw).mono ?_
                          rintro e w' ⟨v7, rfl, ho7, hb7⟩
                          have ho8 := own_base ho7.out hl.d.bw
                          refine ⟨v7, rfl, own_keep HO6.out hb7.out, ho8, S, V, f, g, a, s, v, cs, hl.keep hb7.out, ht, ?_, fun z => by omega, by omega, ⟨HGn.out, ho8, HB6.out.trans (hb7.out.mono hl.d.bw)⟩⟩
                          intro j hj e2
                          have e3 := (ho7.out.lt j hj).1
                          have e4 := (hl.j.own.lt j e2).2
                          omega
                        clear HLv6 HO6 HB6 HGn
                        go_wp2_with fail
                        refine HTo.out.mono ?_
                        rintro e w7 ⟨v7, rfl, HO7, HOn, HS7⟩
                        clear HTo
                        obtain ⟨x7, c7, rfl⟩ := own_slice HOn.out
                        obtain ⟨x10, c10, rfl⟩ := own_slice HO7.out
                        have HC7 := HCE.out w7 HS7.out.low.1
                        have HX7 : Hid (nw = all ∨ nw = all ++ [c]) := HNw
                        rcases HX7.out with rfl | rfl
                        · have hst7 := (own_strs HOn.out (by omega) (fun t ht => by have := (HS7.out.low.2.2 t ht).1; omega))
                          obtain ⟨x7', c7', e1, hs7⟩ := hst7
                          injection e1 with e1 _ e3
                          subst e1; subst e3
                          obtain ⟨x10', c10', e1, hs10⟩ := (own_strs HO7.out (by omega) (fun t ht => by have := (HS7.out.low.2.2 t ht).1; omega))
                          injection e1 with e1 _ e3
                          subst e1; subst e3
                          have HQ : Hid (∀ n, Calls Try.prog 18 #[.slice x7 nw.length c7, .slice x10 nw.length c10] (w7.drewN n) fun e w'' => e = .returned (.bool true) ∧ ∃ m, w'' = w7.drewN m) := fun n => by
                            refine (rtextsQ nw x7 x10 c7 c10 (w7.drewN n) (hs7.below (bdrew (Below.refl _ w7) n)) (hs10.below (bdrew (Below.refl _ w7) n))).mono ?_
                            rintro e w'' ⟨h1, m, h2⟩
                            exact ⟨h1, n + m, by rw [h2]; first | rfl | exact (World.drewN_drewN ..)⟩
                          clear hs7 hs10 HX7 HNw hnl
                          go_wp2_with fail
                          go_quiet ((go_at_call 18; exact HQ.out _))
                          have HS8 : Hid (Sf B nb k2 (2 * (i + 1) + 1) w (w7.drewN nq) q6 (.slice x7 nw.length c7) nw) := HS7.out.keep (bdrew (Below.refl _ w7) nq)
                          generalize w7.drewN nq = w8 at *
                          go_wp2_with fail
                          exact ⟨⟨i + 1, k2, q6, nw, by go_num, rfl, rfl, by omega, by omega, hk2, by omega, HS8⟩, by simp [Lib.intOf]; omega⟩
                        · have hln : (all ++ [c]).length = all.length + 1 := by rw [List.length_append, List.length_singleton]
                          rw [hln] at HS7
                          have HOn2 : Hid (w7.ownsRow B 9 1 (.slice x7 (all.length + 1) c7) (all ++ [c]).length (scells (all ++ [c]))) := by have := HOn.out; rw [hln] at this ⊢; exact this
                          have HQ : Hid (∀ W', Calls Try.prog 18 #[.slice x7 (all.length + 1) c7, .slice x10 all.length c10] W' fun e w'' => e = .returned (.bool false) ∧ W' = w'') := fun W' => rtexts_ne (all.length + 1) all.length x7 x10 c7 c10 W' (by omega) (by omega) (by omega)
                          have h2c : Hid (((w7.alloc (.cells #[] 9)).alloc (.cells #[.string c] 9)).heap[w7.heap.size + 1]? = some (.cells #[.string c] 9 (0, 0))) := by have := heap_alloc_new (w7.alloc (.cells #[] 9)) (.cells #[.string c] 9); unfold Hid; simpa using this
                          have q7a : Hid (Below w7.heap.size w7 w7.drew) := bdrew1 (Below.refl _ w7)
                          have q7s : Hid (∀ X : World, Below w7.heap.size w7 X → X.cell? ⟨b, off + i, none⟩ = some (.string c)) := fun X h => HCE.out X (HS7.out.low.1.trans (h.mono HS7.out.bw))
                          have HTx : Hid (∀ (v2 : Value) (Y : World), Y.ownsRow w7.heap.size 9 1 v2 (all ++ [c]).length (scells (all ++ [c])) → Below w7.heap.size w7 Y → Calls Try.prog 18 #[.slice x7 (all.length + 1) c7, v2] Y fun e w'' => e = .returned (.bool true) ∧ Below Y.heap.size Y w'') := by
                            intro v2 Y ho hq
                            have hz7 : ∀ t ∈ all ++ [c], t.size ≤ 1048576 := fun t ht => by have := (HS7.out.low.2.2 t ht).1; omega
                            obtain ⟨x7', c7', e1, hs7⟩ := own_strs (own_keep HOn2.out hq) (by rw [hln]; omega) hz7
                            injection e1 with e1 _ e3
                            subst e1; subst e3
                            obtain ⟨x2, c2', rfl, hs2⟩ := own_strs ho (by rw [hln]; omega) hz7
                            have := rtexts (all ++ [c]) x7 x2 c7 c2' Y hs7 hs2
                            rw [hln] at this ⊢
                            exact this
                          clear HX7 HNw HOn HOn2 HCE HNZ hnl
                          go_wp2_with fail
                          refine wp_region_held (S := fun w' => Below w7.heap.size w7 w') (by kernel_rfl) ?_
                          change wpAnyH _ _ _ _ _ 18 #[false, false, false, false, false, false, false, false, false, false, false, false, false, false, false, false, false, false] _ _
                          have hS : Below w7.heap.size w7 w7.drew := q7a.out
                          refine takeH (fuel := 17) (i := 0) (v := .slice x7 (all.length + 1) c7) rfl (by kernel_rfl) (by kernel_rfl) (by kernel_rfl) (fun _ _ _ h => h) (Or.inl ⟨rfl, fun _ _ => rfl⟩) hS ?_
                          simp only [Act.put, List.setIfInBounds_toArray, List.set_cons_zero, List.set_cons_succ]
                          refine takeH (fuel := 16) (i := 1) (v := .slice x10 all.length c10) rfl (by kernel_rfl) (by kernel_rfl) (by kernel_rfl) (fun _ _ _ h => h) (Or.inl ⟨rfl, fun _ _ => rfl⟩) hS ?_
                          simp only [Act.put, List.setIfInBounds_toArray, List.set_cons_zero, List.set_cons_succ]
                          refine consH (fuel := 15) (i := 2) rfl (by kernel_rfl) (fun K hK => ?_)
                          rw [if_pos (by rfl)]
                          go_simp
                          refine (HQ.out _).mono ?_
                          rintro e we ⟨rfl, rfl⟩
                          refine hK.out _ _ hS (fun hS => ?_)
                          clear hK
                          try simp only [Act.put, List.setIfInBounds_toArray, List.set_cons_zero, List.set_cons_succ]
                          refine takeH (fuel := 14) (i := 3) (v := .bool true) rfl (by kernel_rfl) (by kernel_rfl) (by kernel_rfl) (fun _ _ _ h => h) (Or.inl ⟨rfl, fun w _ => by go_simp⟩) hS ?_
                          simp only [Act.put, List.setIfInBounds_toArray, List.set_cons_zero, List.set_cons_succ]
                          refine takeH (fuel := 13) (i := 4) (v := .bool true) rfl (by kernel_rfl) (by kernel_rfl) (by kernel_rfl) (fun _ _ _ h => h) (Or.inl ⟨rfl, fun _ _ => rfl⟩) hS ?_
                          simp only [Act.put, List.setIfInBounds_toArray, List.set_cons_zero, List.set_cons_succ]
                          refine takeH (fuel := 12) (i := 5) (v := .slice x7 (all.length + 1) c7) rfl (by kernel_rfl) (by kernel_rfl) (by kernel_rfl) (fun _ _ _ h => h) (Or.inl ⟨rfl, fun _ _ => rfl⟩) hS ?_
                          simp only [Act.put, List.setIfInBounds_toArray, List.set_cons_zero, List.set_cons_succ]
                          refine takeH (fuel := 11) (i := 7) (v := .slice x10 all.length c10) rfl (by kernel_rfl) (by kernel_rfl) (by kernel_rfl) (fun _ _ _ h => h) (Or.inl ⟨rfl, fun _ _ => rfl⟩) hS ?_
                          simp only [Act.put, List.setIfInBounds_toArray, List.set_cons_zero, List.set_cons_succ]
                          refine takeH (fuel := 10) (i := 9) (v := .slice (some ⟨b, off, none⟩) l0.length c0) rfl (by kernel_rfl) (by kernel_rfl) (by kernel_rfl) (fun _ _ _ h => h) (Or.inl ⟨rfl, fun _ _ => rfl⟩) hS ?_
                          simp only [Act.put, List.setIfInBounds_toArray, List.set_cons_zero, List.set_cons_succ]
                          refine takeH (fuel := 9) (i := 10) (v := .int .i64 i) rfl (by kernel_rfl) (by kernel_rfl) (by kernel_rfl) (fun _ _ _ h => h) (Or.inl ⟨rfl, fun _ _ => rfl⟩) hS ?_
                          simp only [Act.put, List.setIfInBounds_toArray, List.set_cons_zero, List.set_cons_succ]
                          refine takeH (fuel := 8) (i := 11) (v := .pointer (some ⟨b, off + i, none⟩)) rfl (by kernel_rfl) (by kernel_rfl) (by kernel_rfl) (fun _ _ _ h => h) (Or.inl ⟨rfl, fun w _ => by go_simp⟩) hS ?_
                          simp only [Act.put, List.setIfInBounds_toArray, List.set_cons_zero, List.set_cons_succ]
                          refine takeH (fuel := 7) (i := 12) (v := .string c) rfl (by kernel_rfl) (by kernel_rfl) (by kernel_rfl) (fun _ _ _ h => h) (Or.inl ⟨rfl, fun w hw => by have hcw := q7s.out w hw; go_simp⟩) hS ?_
                          simp only [Act.put, List.setIfInBounds_toArray, List.set_cons_zero, List.set_cons_succ]
                          refine consH2 (fuel := 6) (i := 6) (j := 13) rfl rfl (by kernel_rfl) (fun K hK => ?_) (fun K hK => ?_)
                          · rw [if_pos (by rfl)]
                            go_simp
                            refine hK.out _ _ (hS.alloc hS.size _) (fun hS => ?_)
                            clear hK
                            try simp only [Act.put, List.setIfInBounds_toArray, List.set_cons_zero, List.set_cons_succ]
                            refine consH2 (fuel := 5) (i := 8) (j := 13) rfl rfl (by kernel_rfl) (fun K hK => ?_) (fun K hK => ?_)
                            · rw [if_pos (by rfl)]
                              obtain ⟨v8, Y8, hr8, ho8, hq8, hk8, hz8⟩ := ap1 HO7.out (by omega) hS (Nat.le_refl _) (show (w7.drew.alloc (.cells #[] 9)).heap[w7.heap.size]? = _ from heap_alloc_new w7.drew _)
                              refine Lib.wp_append_run _ _ _ 35 35 (by rfl) _ _ (by rfl) (by rfl) v8 Y8 hr8 ?_
                              refine hK.out _ _ hq8 (fun hS => ?_)
                              clear hK hr8
                              try simp only [Act.put, List.setIfInBounds_toArray, List.set_cons_zero, List.set_cons_succ]
                              refine consH (fuel := 4) (i := 13) rfl (by kernel_rfl) (fun K hK => ?_)
                              rw [if_pos (by rfl)]
                              go_simp
                              refine hK.out _ _ (hS.alloc hS.size _) (fun hS => ?_)
                              clear hK
                              try simp only [Act.put, List.setIfInBounds_toArray, List.set_cons_zero, List.set_cons_succ]
                              refine consH (fuel := 3) (i := 14) rfl (by kernel_rfl) (fun K hK => ?_)
                              rw [if_pos (by rfl)]
                              obtain ⟨v2, Y2, hr2, ho14, hq14⟩ := ap2 (own_keep ho8 (below_new Y8 _)) (by omega) hS (heap_alloc_new Y8 _)
                              refine Lib.wp_append_run _ _ _ 35 35 (by rfl) _ _ (by rfl) (by rfl) v2 Y2 hr2 ?_
                              refine hK.out _ _ hq14 (fun hS => ?_)
                              clear hK hr2
                              try simp only [Act.put, List.setIfInBounds_toArray, List.set_cons_zero, List.set_cons_succ]
                              refine consH (fuel := 2) (i := 15) rfl (by kernel_rfl) (fun K hK => ?_)
                              rw [if_pos (by rfl)]
                              go_simp
                              refine (HTx.out v2 Y2 ho14 hq14).mono ?_
                              rintro e we ⟨rfl, hq15⟩
                              refine hK.out _ _ (hq14.trans (hq15.mono hq14.size)) (fun hS => ?_)
                              clear hK
                              try simp only [Act.put, List.setIfInBounds_toArray, List.set_cons_zero, List.set_cons_succ]
                              refine takeH (fuel := 1) (i := 16) (v := .bool false) rfl (by kernel_rfl) (by kernel_rfl) (by kernel_rfl) (fun _ _ _ h => h) (Or.inl ⟨rfl, fun w _ => by go_simp⟩) hS ?_
                              simp only [Act.put, List.setIfInBounds_toArray, List.set_cons_zero, List.set_cons_succ]
                              refine takeH (fuel := 0) (i := 17) (v := .bool false) rfl (by kernel_rfl) (by kernel_rfl) (by kernel_rfl) (fun _ _ _ h => h) (Or.inl ⟨rfl, fun w _ => by go_simp⟩) hS ?_
                              simp only [Act.put, List.setIfInBounds_toArray, List.set_cons_zero, List.set_cons_succ]
                              refine wpAnyH_done (by kernel_rfl) ?_ _
                              have HS8 : Hid (Sf B nb k2 (2 * (i + 1) + 1) w we q6 (.slice x7 (all.length + 1) c7) (all ++ [c])) := HS7.out.keep hS
                              clear hS hq15 hq14 ho14 hq8 ho8 hk8 hz8 HTx HQ q7a q7s
                              go_wp2_with fail
                              exact ⟨⟨i + 1, k2, q6, all ++ [c], by go_num, rfl, rfl, by omega, by omega, hk2, by rw [hln]; omega, HS8⟩, by simp [Lib.intOf]; omega⟩
                            · rw [if_pos (by rfl)]
                              go_simp
                              refine hK.out _ _ (hS.alloc hS.size _) (fun hS => ?_)
                              clear hK
                              try simp only [Act.put, List.setIfInBounds_toArray, List.set_cons_zero, List.set_cons_succ]
                              refine consH (fuel := 4) (i := 8) rfl (by kernel_rfl) (fun K hK => ?_)
                              rw [if_pos (by rfl)]
                              obtain ⟨v8, Y8, hr8, ho8, hq8, hk8, hz8⟩ := ap1 HO7.out (by omega) hS (Nat.le_refl _) (show ((w7.drew.alloc (.cells #[] 9)).alloc (.cells #[.string c] 9)).heap[w7.heap.size]? = _ from (Below.heap_alloc _ _ _ (by simp)).trans (heap_alloc_new w7.drew _))
                              refine Lib.wp_append_run _ _ _ 35 35 (by rfl) _ _ (by rfl) (by rfl) v8 Y8 hr8 ?_
                              refine hK.out _ _ hq8 (fun hS => ?_)
                              clear hK hr8
                              try simp only [Act.put, List.setIfInBounds_toArray, List.set_cons_zero, List.set_cons_succ]
                              refine consH (fuel := 3) (i := 14) rfl (by kernel_rfl) (fun K hK => ?_)
                              rw [if_pos (by rfl)]
                              obtain ⟨v2, Y2, hr2, ho14, hq14⟩ := ap2 ho8 (by omega) hS (show Y8.heap[w7.heap.size + 1]? = _ from (hk8 _ (by simp) (by omega)).trans h2c.out)
                              refine Lib.wp_append_run _ _ _ 35 35 (by rfl) _ _ (by rfl) (by rfl) v2 Y2 hr2 ?_
                              refine hK.out _ _ hq14 (fun hS => ?_)
                              clear hK hr2
                              try simp only [Act.put, List.setIfInBounds_toArray, List.set_cons_zero, List.set_cons_succ]
                              refine consH (fuel := 2) (i := 15) rfl (by kernel_rfl) (fun K hK => ?_)
                              rw [if_pos (by rfl)]
                              go_simp
                              refine (HTx.out v2 Y2 ho14 hq14).mono ?_
                              rintro e we ⟨rfl, hq15⟩
                              refine hK.out _ _ (hq14.trans (hq15.mono hq14.size)) (fun hS => ?_)
                              clear hK
                              try simp only [Act.put, List.setIfInBounds_toArray, List.set_cons_zero, List.set_cons_succ]
                              refine takeH (fuel := 1) (i := 16) (v := .bool false) rfl (by kernel_rfl) (by kernel_rfl) (by kernel_rfl) (fun _ _ _ h => h) (Or.inl ⟨rfl, fun w _ => by go_simp⟩) hS ?_
                              simp only [Act.put, List.setIfInBounds_toArray, List.set_cons_zero, List.set_cons_succ]
                              refine takeH (fuel := 0) (i := 17) (v := .bool false) rfl (by kernel_rfl) (by kernel_rfl) (by kernel_rfl) (fun _ _ _ h => h) (Or.inl ⟨rfl, fun w _ => by go_simp⟩) hS ?_
                              simp only [Act.put, List.setIfInBounds_toArray, List.set_cons_zero, List.set_cons_succ]
                              refine wpAnyH_done (by kernel_rfl) ?_ _
                              have HS8 : Hid (Sf B nb k2 (2 * (i + 1) + 1) w we q6 (.slice x7 (all.length + 1) c7) (all ++ [c])) := HS7.out.keep hS
                              clear hS hq15 hq14 ho14 hq8 ho8 hk8 hz8 HTx HQ q7a q7s
                              go_wp2_with fail
                              exact ⟨⟨i + 1, k2, q6, all ++ [c], by go_num, rfl, rfl, by omega, by omega, hk2, by rw [hln]; omega, HS8⟩, by simp [Lib.intOf]; omega⟩
                          · rw [if_pos (by rfl)]
                            go_simp
                            refine hK.out _ _ (hS.alloc hS.size _) (fun hS => ?_)
                            clear hK
                            try simp only [Act.put, List.setIfInBounds_toArray, List.set_cons_zero, List.set_cons_succ]
                            refine consH (fuel := 5) (i := 6) rfl (by kernel_rfl) (fun K hK => ?_)
                            rw [if_pos (by rfl)]
                            go_simp
                            refine hK.out _ _ (hS.alloc hS.size _) (fun hS => ?_)
                            clear hK
                            try simp only [Act.put, List.setIfInBounds_toArray, List.set_cons_zero, List.set_cons_succ]
                            refine consH (fuel := 4) (i := 8) rfl (by kernel_rfl) (fun K hK => ?_)
                            rw [if_pos (by rfl)]
                            obtain ⟨v8, Y8, hr8, ho8, hq8, hk8, hz8⟩ := ap1 HO7.out (by omega) hS (by omega) (show ((w7.drew.alloc (.cells #[.string c] 9)).alloc (.cells #[] 9)).heap[w7.heap.size + 1]? = _ from by have := heap_alloc_new (w7.drew.alloc (.cells #[.string c] 9)) (.cells #[] 9); simpa using this)
                            refine Lib.wp_append_run _ _ _ 35 35 (by rfl) _ _ (by rfl) (by rfl) v8 Y8 hr8 ?_
                            refine hK.out _ _ hq8 (fun hS => ?_)
                            clear hK hr8
                            try simp only [Act.put, List.setIfInBounds_toArray, List.set_cons_zero, List.set_cons_succ]
                            refine consH (fuel := 3) (i := 14) rfl (by kernel_rfl) (fun K hK => ?_)
                            rw [if_pos (by rfl)]
                            obtain ⟨v2, Y2, hr2, ho14, hq14⟩ := ap2 ho8 (by omega) hS (show Y8.heap[w7.heap.size]? = _ from (hk8 _ (by simp; omega) (by omega)).trans ((Below.heap_alloc _ _ _ (by simp)).trans (heap_alloc_new w7.drew _)))
                            refine Lib.wp_append_run _ _ _ 35 35 (by rfl) _ _ (by rfl) (by rfl) v2 Y2 hr2 ?_
                            refine hK.out _ _ hq14 (fun hS => ?_)
                            clear hK hr2
                            try simp only [Act.put, List.setIfInBounds_toArray, List.set_cons_zero, List.set_cons_succ]
                            refine consH (fuel := 2) (i := 15) rfl (by kernel_rfl) (fun K hK => ?_)
                            rw [if_pos (by rfl)]
                            go_simp
                            refine (HTx.out v2 Y2 ho14 hq14).mono ?_
                            rintro e we ⟨rfl, hq15⟩
                            refine hK.out _ _ (hq14.trans (hq15.mono hq14.size)) (fun hS => ?_)
                            clear hK
                            try simp only [Act.put, List.setIfInBounds_toArray, List.set_cons_zero, List.set_cons_succ]
                            refine takeH (fuel := 1) (i := 16) (v := .bool false) rfl (by kernel_rfl) (by kernel_rfl) (by kernel_rfl) (fun _ _ _ h => h) (Or.inl ⟨rfl, fun w _ => by go_simp⟩) hS ?_
                            simp only [Act.put, List.setIfInBounds_toArray, List.set_cons_zero, List.set_cons_succ]
                            refine takeH (fuel := 0) (i := 17) (v := .bool false) rfl (by kernel_rfl) (by kernel_rfl) (by kernel_rfl) (fun _ _ _ h => h) (Or.inl ⟨rfl, fun w _ => by go_simp⟩) hS ?_
                            simp only [Act.put, List.setIfInBounds_toArray, List.set_cons_zero, List.set_cons_succ]
                            refine wpAnyH_done (by kernel_rfl) ?_ _
                            have HS8 : Hid (Sf B nb k2 (2 * (i + 1) + 1) w we q6 (.slice x7 (all.length + 1) c7) (all ++ [c])) := HS7.out.keep hS
                            clear hS hq15 hq14 ho14 hq8 ho8 hk8 hz8 HTx HQ q7a q7s
                            go_wp2_with fail
                            exact ⟨⟨i + 1, k2, q6, all ++ [c], by go_num, rfl, rfl, by omega, by omega, hk2, by rw [hln]; omega, HS8⟩, by simp [Lib.intOf]; omega⟩

      · have h4z : (4096 : Int) < (c.size : Int) := by omega
        go_wp2_with fail
        exact ⟨⟨i + 1, k, q, all, by go_num, rfl, rfl, by omega, by omega, hk, by omega, HS.out.mono (by omega)⟩, by simp [Lib.intOf]; omega⟩
    · obtain ⟨x10, c10, rfl⟩ := own_slice HS.out.low.2.1
      have HTo : Hid (Calls Try.prog 29 #[.pointer (some ⟨q, 0, none⟩)] W fun e w' => ∃ v, e = .returned v ∧ Hid (w'.ownsRow B 9 1 v all.length (scells all)) ∧ Hid (Sf B nb k (2 * i + 1) w w' q (.slice x10 all.length c10) all)) := by
        obtain ⟨S, V, f, g, a, s, v, cs, hl, ht, h3, h4, h5, h6⟩ := HS.out
        refine (ltold W hl.j ht h6.good (by omega) hl.d.bw).mono ?_
        rintro e w' ⟨v7, rfl, ho7, hb7⟩
        exact ⟨v7, rfl, own_base ho7.out hl.d.bw, S, V, f, g, a, s, v, cs, hl.keep hb7.out, ht, h3, h4, h5, h6.keep hl.d.bw hb7.out⟩
      clear HS
      by_cases hz1 : (i : Int) < (l0.length : Int)
      · have hz2 : ¬ (i : Int) < 30 := by
          intro hz2
          exact hin ⟨by omega, by omega⟩
        clear hin
        go_wp2_with fail
        refine HTo.out.mono ?_
        rintro e w3 ⟨v3, rfl, HO3, HS3⟩
        obtain ⟨x3, c3, rfl⟩ := own_slice HO3.out
        have HTx : Hid (Calls Try.prog 18 #[.slice x3 all.length c3, .slice x10 all.length c10] w3 (BB true w3)) := by
          have hz7 : ∀ t ∈ all, t.size ≤ 1048576 := fun t ht => by have := (HS3.out.low.2.2 t ht).1; omega
          obtain ⟨x3', c3', e1, hs3⟩ := own_strs HO3.out (by omega) hz7
          injection e1 with e1 _ e3
          subst e1; subst e3
          obtain ⟨x10', c10', e1, hs10⟩ := own_strs HS3.out.low.2.1 (by omega) hz7
          injection e1 with e1 _ e3
          subst e1; subst e3
          exact rtexts all x3 x10 c3 c10 w3 hs3 hs10
        clear HTo HO3
        go_wp2_with fail
        refine HTx.out.mono ?_
        rintro e w4 ⟨rfl, hb4⟩
        have HS4 : Hid (Sf B nb k (2 * i + 1) w w4 q (.slice x10 all.length c10) all) := HS3.out.keep hb4
        have HSq : Hid (Calls Try.prog 20 #[.pointer (some ⟨q, 0, none⟩)] w4 fun e w' => e = .returned (.int .i64 all.length) ∧ Below w4.heap.size w4 w') := by
          obtain ⟨S, V, f, g, a, s, v, cs, hl, ht, _⟩ := HS4.out
          have hsq : a + cs.length = all.length := by have := ht.seq; rw [ls_len, ls_len] at this; exact this
          have := xSeq hl.j (by omega) (by omega)
          rw [← Int.natCast_add, hsq] at this
          exact this
        have hee : ((all.length : Int) == (all.length : Int)) = true := by simp
        clear hb4 HTx HS3
        go_wp2_with fail
        refine HSq.out.mono ?_
        rintro e w5 ⟨rfl, hb5⟩
        have HB5 : Hid (Below B w w5) := HS4.out.low.1.trans (hb5.mono HS4.out.bw)
        clear hb5 HSq HS4
        go_wp2_with fail
        refine (xawake _).mono ?_
        rintro e w6 ⟨rfl, hb6⟩
        have HB6 : Hid (Below B w w6) := HB5.out.trans (hb6.mono (by rw [HBE.out]; exact HB5.out.size))
        clear hb6
        go_wp2_with fail
        go_ret
        exact BB.mk rfl (by rw [← HBE.out]; exact HB6.out)
      · clear hin
        go_wp2_with fail
        refine HTo.out.mono ?_
        rintro e w3 ⟨v3, rfl, HO3, HS3⟩
        obtain ⟨x3, c3, rfl⟩ := own_slice HO3.out
        have HTx : Hid (Calls Try.prog 18 #[.slice x3 all.length c3, .slice x10 all.length c10] w3 (BB true w3)) := by
          have hz7 : ∀ t ∈ all, t.size ≤ 1048576 := fun t ht => by have := (HS3.out.low.2.2 t ht).1; omega
          obtain ⟨x3', c3', e1, hs3⟩ := own_strs HO3.out (by omega) hz7
          injection e1 with e1 _ e3
          subst e1; subst e3
          obtain ⟨x10', c10', e1, hs10⟩ := own_strs HS3.out.low.2.1 (by omega) hz7
          injection e1 with e1 _ e3
          subst e1; subst e3
          exact rtexts all x3 x10 c3 c10 w3 hs3 hs10
        clear HTo HO3
        go_wp2_with fail
        refine HTx.out.mono ?_
        rintro e w4 ⟨rfl, hb4⟩
        have HS4 : Hid (Sf B nb k (2 * i + 1) w w4 q (.slice x10 all.length c10) all) := HS3.out.keep hb4
        have HSq : Hid (Calls Try.prog 20 #[.pointer (some ⟨q, 0, none⟩)] w4 fun e w' => e = .returned (.int .i64 all.length) ∧ Below w4.heap.size w4 w') := by
          obtain ⟨S, V, f, g, a, s, v, cs, hl, ht, _⟩ := HS4.out
          have hsq : a + cs.length = all.length := by have := ht.seq; rw [ls_len, ls_len] at this; exact this
          have := xSeq hl.j (by omega) (by omega)
          rw [← Int.natCast_add, hsq] at this
          exact this
        have hee : ((all.length : Int) == (all.length : Int)) = true := by simp
        clear hb4 HTx HS3
        go_wp2_with fail
        refine HSq.out.mono ?_
        rintro e w5 ⟨rfl, hb5⟩
        have HB5 : Hid (Below B w w5) := HS4.out.low.1.trans (hb5.mono HS4.out.bw)
        clear hb5 HSq HS4
        go_wp2_with fail
        refine (xawake _).mono ?_
        rintro e w6 ⟨rfl, hb6⟩
        have HB6 : Hid (Below B w w6) := HB5.out.trans (hb6.mono (by rw [HBE.out]; exact HB5.out.size))
        clear hb6
        go_wp2_with fail
        go_ret
        exact BB.mk rfl (by rw [← HBE.out]; exact HB6.out)
end Go.Proofs.Yteiilifljfagdaa
