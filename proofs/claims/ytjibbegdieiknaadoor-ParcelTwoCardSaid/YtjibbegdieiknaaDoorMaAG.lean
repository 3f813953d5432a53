/-
  salt.Stream.
-/
import Derived.Test.YtjibbegdieiknaaDoorMaAF
namespace Go.Proofs.YtjibbegdieiknaaDoor
open Go.RowKit
set_option linter.unusedVariables false

theorem xor8_zero (x : Int) (h : 0 ≤ x ∧ x < 256) : bits .xor .u8 0 x = x := by
  obtain ⟨n, rfl⟩ := Int.eq_ofNat_of_zero_le h.1
  have := u8_xor_nat 0 n (by omega) (by omega)
  rw [show ((0 : Nat) : Int) = 0 from rfl] at this
  rw [this, Nat.zero_xor]
theorem xorb_zeros : ∀ {s : List Int}, Bytes s → xorb (List.replicate s.length 0) s = s
  | [], _ => rfl
  | x :: s, h => by
    have hx := h x (by simp)
    have hs : Bytes s := fun y hy => h y (by simp [hy])
    show xorb (List.replicate (s.length + 1) 0) (x :: s) = x :: s
    rw [List.replicate_succ]
    show bits .xor .u8 0 x :: xorb (List.replicate s.length 0) s = x :: s
    rw [xor8_zero x hx, xorb_zeros hs]
theorem xorb_stream (key nonce : List Int) (f : Int) (n : Nat) : xorb (List.replicate n 0) (stream key nonce f n) = stream key nonce f n := by
  have := xorb_zeros (stream_bytes key nonce f n)
  rwa [stream_length] at this

theorem mk_z (n c : Nat) (z z' : Int) (hz : z = n) (hz' : z' = c) (h : n ≤ c) (hc : c ≤ 70368744177664) (W : World) : (Instr.makeSlice 23 (.int .i64 z) (.int .i64 z')).run Tryd.prog W = .ok (.slice (some ⟨W.heap.size, 0, none⟩) n c) (W.alloc (.cells (IV .u8 (List.replicate c 0)).toArray 5)) := by
  subst hz; subst hz'
  obtain ⟨i0, hi0, hz0, hz1, hz2⟩ := info_parts info_u8
  have h := run_make (P := Tryd.prog) W 23 5 i0 (.int .u8 0) Tryd.underlying23 hi0 hz0 .i64 .i64 n c (by omega) (by omega) (by rw [hz2]; omega) (by omega)
  rw [Int.toNat_natCast, Int.toNat_natCast, hz1, Nat.mul_one] at h
  rw [← made_u8]
  exact h

end Go.Proofs.YtjibbegdieiknaaDoor

/-
  writePadded: what is written, filled up with noughts.
-/
namespace Go.Proofs.YtjibbegdieiknaaDoor
set_option maxRecDepth 100000
open Go.RowKit
set_option linter.unusedVariables false

/-- The accumulator behind a message that is filled up. -/
def padA (R acc : Nat) (l : List Int) : Nat :=
  if l.length % 16 = 0 then absorb R acc (l.take (l.length - l.length % 16))
  else absorb R (absorb R acc (l.take (l.length - l.length % 16))) (l.drop (l.length - l.length % 16) ++ List.replicate (16 - l.length % 16) 0)

set_option maxHeartbeats 1600000 in
theorem writePadded_any (ga acc f0 f1 z0 z1 c : Nat) (A : Option Addr) (l : List Int) (w0 w : World) (ha : Au w ga acc f0 f1 z0 z1) (hr : Rd w0 A l) (hga : w0.heap.size ≤ ga) (hb0 : Below w0.heap.size w0 w) (hB : Bytes l) (hc : l.length ≤ c) (hm : c ≤ 9223372036854775807)
    (h3 : f0 < 1152921504606846976) (h4 : f1 < 1152921504606846976) :
    Calls Tryd.prog 55 #[.pointer (some ⟨ga, 0, none⟩), .slice A l.length c] w fun e w' =>
      e = .returned (.tuple #[]) ∧ Au w' ga (padA (f0 + f1 * 18446744073709551616) acc l) f0 f1 z0 z1 ∧ w.grownBy w' (some ga) := by
  obtain ⟨m, hm0⟩ : ∃ m, m = l.length - l.length % 16 := ⟨_, rfl⟩
  have hz : (l.length : Int) - (l.length : Int) % 16 = (m : Int) := by omega
  have hml : m ≤ l.length := by omega
  have hlm : (l.take m).length = m := by simp [hml]
  have hld : (l.drop m).length = l.length % 16 := by simp; omega
  have apart : ∀ (A' : Option Addr) (l' : List Int), Rd w0 A' l' → ∀ a, A' = some a → 0 < l'.length → a.block ≠ ga := fun A' l' h a e h0 => by
    obtain ⟨b, off, e', hb⟩ := h.some_ h0
    rw [e] at e'; injection e' with e'; subst e'
    exact Nat.ne_of_lt (Nat.lt_of_lt_of_le hb hga)
  obtain ⟨A1, hS1, hR1, _⟩ := slice_upto A c l m .i64 hml hc
  obtain ⟨A2, hS2, hR2, _⟩ := slice_from A c l m .i64 hml hc
  rw [hlm, ← hz] at hS1
  rw [hld, ← hz] at hS2
  have hgw : ga < w.heap.size := by obtain ⟨_, _, _, hb, _⟩ := ha.words; exact hb.lt
  have C1 := write_all ga acc f0 f1 z0 z1 c A1 (l.take m) w ha ((hR1 _ hr).below hb0) (apart _ _ (hR1 _ hr)) (hB.take m) (by omega) hm h3 h4
  rw [hlm] at C1
  obtain ⟨R, hR⟩ : ∃ R, R = f0 + f1 * 18446744073709551616 := ⟨_, rfl⟩
  have HRR := Lib.hid hR
  rw [← hR] at C1 ⊢
  obtain ⟨a1, ha1⟩ : ∃ a1, a1 = absorb R acc (l.take m) := ⟨_, rfl⟩
  rw [← ha1] at C1
  have C1' := Lib.hid C1
  have hpad : padA R acc l = if l.length % 16 = 0 then a1 else absorb R a1 (l.drop m ++ List.replicate (16 - l.length % 16) 0) := by
    rw [padA, ← hm0, ← ha1]
  clear C1 ha1 hR
  obtain ⟨Z, hZ⟩ : ∃ Z, Z = padA R acc l := ⟨_, rfl⟩
  rw [← hZ]
  rw [← hZ] at hpad
  have HP := Lib.hid hpad
  have HZq := Lib.hid hz
  have HM := Lib.hid hm0
  have HR := Lib.hid (hR2 _ hr)
  have HB0 := Lib.hid hb0
  have HB := Lib.hid (hB.drop m)
  have HLD := Lib.hid hld
  have APART := Lib.hid apart
  by_cases hfull : l.length % 16 = 0
  · have hnl : ¬ ((l.length : Int) - (l.length : Int) % 16 < (l.length : Int)) := by omega
    have hd : (decide ((l.length : Int) - (l.length : Int) % 16 < (l.length : Int))) = false := by simp; omega
    clear hpad hz hm0 hR1 hR2 hr hb0 hB hld apart hZ hS2 hlm
    go_enter Tryd.func55, Tryd.ntmps55
    go_wp2_with fail
    refine C1'.out.mono ?_
    rintro e w1 ⟨rfl, au1, g1⟩
    have AU := Lib.hid au1
    have G := Lib.hid g1
    clear au1 g1
    go_wp2_with fail
    exact bodyPost_end (v := .tuple #[]) (results_none (by rfl) _ _ _) (by rfl) ⟨rfl, by rw [HP.out, if_pos hfull]; exact AU.out, G.out⟩
  · have hnl : (l.length : Int) - (l.length : Int) % 16 < (l.length : Int) := by omega
    have hd : (decide ((l.length : Int) - (l.length : Int) % 16 < (l.length : Int))) = true := by simp; omega
    clear hpad hz hm0 hR1 hR2 hr hb0 hB hld apart hZ hlm
    go_enter Tryd.func55, Tryd.ntmps55
    go_wp2_with fail
    refine C1'.out.mono ?_
    rintro e w1 ⟨rfl, au1, g1⟩
    have AU := Lib.hid au1
    have G := Lib.hid g1
    have hg1 : ga < w1.heap.size := Nat.lt_of_lt_of_le hgw g1.size
    clear au1 g1
    have RD1 := Lib.hid (show Rd w1 A2 (l.drop m) from (HR.out.below (grown_below HB0.out (only_trans (World.grownBy.refl w _) G.out) HB0.out.size hga)))
    have sz := slice_arr16z w1.heap.size
    obtain ⟨rest, hrest⟩ : ∃ rest, rest = l.drop m := ⟨_, rfl⟩
    obtain ⟨L1, hL1⟩ : ∃ L1, L1 = l.length % 16 := ⟨_, rfl⟩
    have hL16 : L1 < 16 := by omega
    rw [← hrest] at RD1 HB HLD HP
    rw [← hL1] at hS2 HLD HP
    have HRest := Lib.hid hrest
    have HL1 := Lib.hid hL1
    have eln : (IV IntKind.u8 rest).length = L1 := by rw [IV_length]; exact HLD.out
    have hrl := Lib.hid HLD.out
    clear hrest hL1
    go_wp2_with fail
    go_still_tail 4, (by kernel_rfl)
    obtain ⟨w2, hw2⟩ : ∃ w2, w2 = (w1.alloc (.cells (IV .u8 (List.replicate 16 0)).toArray 78)).drew := ⟨_, rfl⟩
    change wpList _ _ _ _ _ (w1.alloc (.cells (IV .u8 (List.replicate 16 0)).toArray 78)).drew
    have bk2 : Blk w2 w1.heap.size 78 (IV .u8 (List.replicate 16 0)).toArray := by rw [hw2]; exact Blk.new w1 _ _
    have rd2 : Rd w2 A2 rest := by rw [hw2]; exact RD1.out.alloc _
    have be2 : Below w1.heap.size w1 w2 := by rw [hw2]; exact ((Below.refl _ _).alloc (Nat.le_refl _) _).drew
    rw [← hw2]
    clear hw2 sz
    refine wpList_copy_splice rfl (.tmp 21) (.tmp 24) 23 23 rfl 5 rfl rfl _ _ 16 16 L1 (c - m) rfl rfl w1.heap.size 0 (IV .u8 (List.replicate 16 0)) 78 bk2 (IV .u8 rest) (by rw [eln]; exact (Nat.min_eq_left (by omega)).symm) (fun hn => ⟨rfl, (by
            obtain ⟨ad, e, _, hc⟩ := rd2.2 (by simpa [IV] using hn)
            exact ⟨ad, e, hc⟩)⟩) (by rw [eln, IV_length]; simp; omega) (IV_oneCell _ _) w1.heap.size w1 be2 (Nat.le_refl _) ?_
    rw [eln]
    intro w3 h3 b3
    have H3 := Lib.hid (show Blk w3 w1.heap.size 78 (IV .u8 (rest ++ List.replicate (16 - rest.length) 0)).toArray from (by have h := h3.out; rw [splice16 rest (by have := hrl.out; omega)] at h; exact h))
    have B3 := Lib.hid b3
    clear h3 b3 bk2 rd2 be2
    have au3 := AU.out.below B3.out hg1
    have G3 := Lib.hid (only_trans G.out (only_of_below B3.out (some ga)))
    have hl16 : (rest ++ List.replicate (16 - rest.length) 0).length = 16 := by have := HLD.out; simp; omega
    have C2 := Lib.hid (write_all ga _ _ _ _ _ 16 (some ⟨w1.heap.size, 0, none⟩) (rest ++ List.replicate (16 - rest.length) 0) w3 au3 H3.out.rd (fun a e _ => by injection e with e; subst e; exact Nat.ne_of_gt hg1)
      (HB.out.append (zeros_bytes _)) (by omega) (by omega) h3 h4)
    rw [hl16, ← HRR.out, HLD.out] at C2
    clear hl16
    have sz := slice_arr16z w1.heap.size
    clear au3
    refine wpList_nil ?_
    go_wp2_with fail
    refine C2.out.mono ?_
    rintro e w4 ⟨rfl, au4, g4⟩
    have AU4 := Lib.hid au4
    have G4 := Lib.hid (only_trans G3.out g4)
    clear au4 g4
    go_wp2_with fail
    exact bodyPost_end (v := .tuple #[]) (results_none (by rfl) _ _ _) (by rfl) ⟨rfl, by rw [HP.out, if_neg (by have := HL1.out; omega)]; exact AU4.out, G4.out⟩
end Go.Proofs.YtjibbegdieiknaaDoor

/-
  same: of two arrays of sixteen bytes.
-/
namespace Go.Proofs.YtjibbegdieiknaaDoor
set_option maxRecDepth 100000
open Go.RowKit
set_option linter.unusedVariables false

theorem orxor8 {d x y : Int} (hd : 0 ≤ d ∧ d < 256) (hx : 0 ≤ x ∧ x < 256) (hy : 0 ≤ y ∧ y < 256) : (0 ≤ bits .or .u8 d (bits .xor .u8 x y) ∧ bits .or .u8 d (bits .xor .u8 x y) < 256) ∧ (bits .or .u8 d (bits .xor .u8 x y) = 0 ↔ d = 0 ∧ x = y) := by
  obtain ⟨a, rfl⟩ := Int.eq_ofNat_of_zero_le hd.1
  obtain ⟨b, rfl⟩ := Int.eq_ofNat_of_zero_le hx.1
  obtain ⟨c, rfl⟩ := Int.eq_ofNat_of_zero_le hy.1
  have h1 : b ^^^ c < 2 ^ 8 := Nat.xor_lt_two_pow (by omega) (by omega)
  rw [u8_xor_nat b c (by omega) (by omega), u8_or_nat a (b ^^^ c) (by omega) (by omega)]
  have h2 : a ||| (b ^^^ c) < 2 ^ 8 := Nat.or_lt_two_pow (by omega) (by omega)
  refine ⟨by omega, ?_⟩
  have h3 : a ||| (b ^^^ c) = 0 ↔ a = 0 ∧ b ^^^ c = 0 := Nat.or_eq_zero_iff
  have h4 : b ^^^ c = 0 ↔ b = c := by
    constructor
    · intro h
      have e : (b ^^^ c) ^^^ c = 0 ^^^ c := by rw [h]
      rwa [Nat.xor_assoc, Nat.xor_self, Nat.xor_zero, Nat.zero_xor] at e
    · rintro rfl; exact Nat.xor_self _
  omega

theorem only_below_drewN {B : Nat} {a w : World} (h : Below B a w) (n : Nat) : Below B a (w.drewN n) := ⟨h.os, h.tape, h.output, h.size, h.block⟩
set_option maxHeartbeats 800000 in
theorem same_arr (a b : List Int) (w : World) (la : a.length = 16) (lb : b.length = 16) (h1 : Bytes a) (h2 : Bytes b) :
    Calls Tryd.prog 47 #[.agg (IV .u8 a).toArray, .agg (IV .u8 b).toArray] w fun r w' => r = .returned (.bool (decide (a = b))) ∧ Below w.heap.size w w' := by
  obtain ⟨R, hR⟩ : ∃ R, R = decide (a = b) := ⟨_, rfl⟩
  rw [← hR]
  have HR := Lib.hid hR
  obtain ⟨AA, hAA⟩ : ∃ AA, AA = (IV .u8 a).toArray := ⟨_, rfl⟩
  obtain ⟨BB, hBB⟩ : ∃ BB, BB = (IV .u8 b).toArray := ⟨_, rfl⟩
  rw [← hAA, ← hBB]
  have HAA := Lib.hid hAA
  have HBB := Lib.hid hBB
  have SA := Lib.hid (show AA.size = 16 by rw [hAA]; simp [IV, la])
  have SB := Lib.hid (show BB.size = 16 by rw [hBB]; simp [IV, lb])
  have I16 := Lib.hid (show (Tryd.prog.info? 78).map (·.size) = some 16 by kernel_rfl)
  have LA := Lib.hid la
  have LB := Lib.hid lb
  have H1 := Lib.hid h1
  have H2 := Lib.hid h2
  clear hR hAA hBB la lb h1 h2
  go_enter Tryd.func47, Tryd.ntmps47
  go_wp2_with fail
  obtain ⟨W, hW⟩ : ∃ W, W = (w.alloc (.cells AA 78)).alloc (.cells BB 78) := ⟨_, rfl⟩
  have bA : Blk W w.heap.size 78 (IV .u8 a).toArray := by rw [hW, ← HAA.out]; exact (Blk.new w _ AA).alloc _
  have bB : Blk W (w.heap.size + 1) 78 (IV .u8 b).toArray := by rw [hW, ← HBB.out]; exact blk_second w _ _ BB
  have bL : Below w.heap.size w W := by rw [hW]; exact ((Below.refl _ _).alloc (Nat.le_refl _) _).alloc (by simp) _
  show Code.wp _ _ _ _ ((w.alloc (.cells AA 78)).alloc (.cells BB 78))
  rw [← hW]
  have BA := Lib.hid bA
  have BB' := Lib.hid bB
  have BLL := Lib.hid bL
  clear bA bB bL hW
  go_loopw [5, 7] (fun dv i wr => ∃ (k : Nat) (D : Int), k ≤ 16 ∧ i = .int .i64 k ∧ dv = .int .u8 D ∧ (0 ≤ D ∧ D < 256) ∧ (D = 0 ↔ a.take k = b.take k) ∧ ∃ n, wr = W.drewN n) (fun _ i _ => 16 - (intOf i).toNat)
  case atStart => exact ⟨0, 0, by omega, rfl, rfl, ⟨by omega, by omega⟩, by simp, 0, rfl⟩
  case round =>
    obtain ⟨k, D, hk, rfl, rfl, hD, hDz, n, hwn⟩ := hrel
    by_cases hkl : k < 16
    · have hka : k < a.length := by have := LA.out; omega
      have hkb : k < b.length := by have := LB.out; omega
      have c1 : wr.cell? ⟨w.heap.size, k, none⟩ = some (.int .u8 a[k]) := by rw [hwn]; exact (BA.out.drewN n).cell_i (List.getElem?_eq_getElem hka)
      have c2 : wr.cell? ⟨w.heap.size + 1, k, none⟩ = some (.int .u8 b[k]) := by rw [hwn]; exact (BB'.out.drewN n).cell_i (List.getElem?_eq_getElem hkb)
      have q1 := H1.out _ (List.getElem_mem hka)
      have q2 := H2.out _ (List.getElem_mem hkb)
      obtain ⟨x, hx⟩ : ∃ x, x = a[k] := ⟨_, rfl⟩
      obtain ⟨y, hy⟩ : ∃ y, y = b[k] := ⟨_, rfl⟩
      rw [← hx] at c1 q1
      rw [← hy] at c2 q2
      have hz := orxor8 hD q1 q2
      have hnew : (bits .or .u8 D (bits .xor .u8 x y) = 0 ↔ a.take (k + 1) = b.take (k + 1)) := by
        rw [hz.2, hDz, List.take_succ_eq_append_getElem hka, List.take_succ_eq_append_getElem hkb, ← hx, ← hy]
        constructor
        · rintro ⟨e1, e2⟩
          rw [e1, e2]
        · intro e
          have := List.append_inj' e rfl
          exact ⟨this.1, by simpa using this.2⟩
      have HZ := Lib.hid hz.1
      have HN := Lib.hid hnew
      have j1 : (0 : Int) ≤ (k : Int) := by omega
      have j2 : (k : Int) < 16 := by omega
      have HWN := Lib.hid hwn
      clear hDz hz hnew hx hy hwn hka hkb
      go_wp2_with fail
      go_quiet (fail)
      go_wp2_with fail
      go_roundw
      case rel => exact ⟨k + 1, _, by omega, by go_num, rfl, HZ.out, HN.out, _, by rw [HWN.out, World.drewN_drewN]⟩
      case measure => simp [intOf]; omega
    · have hk16 : k = 16 := by omega
      rw [hk16, List.take_of_length_le (by have := LA.out; omega), List.take_of_length_le (by have := LB.out; omega)] at hDz
      have hfin : (D == 0) = R := by
        rw [HR.out]
        have e0 : (D == 0) = decide (D = 0) := by by_cases h : D = 0 <;> simp [h]
        rw [e0]
        by_cases h : D = 0
        · rw [decide_eq_true h, decide_eq_true (hDz.1 h)]
        · rw [decide_eq_false h, decide_eq_false (fun e => h (hDz.2 e))]
      have HF := Lib.hid hfin
      have HWN := Lib.hid hwn
      have j2 : ¬ ((k : Int) < 16) := by omega
      clear hfin hDz hwn hk16
      go_wp2_with fail
      go_ret
      exact ⟨by simp [← HF.out], by rw [HWN.out]; exact only_below_drewN BLL.out n⟩
end Go.Proofs.YtjibbegdieiknaaDoor

/-
  sealTag: the tag of what is closed.
-/
namespace Go.Proofs.YtjibbegdieiknaaDoor
set_option maxRecDepth 100000
open Go.RowKit
set_option linter.unusedVariables false

/-- The tag of what is closed, by value. -/
def sealT (key nonce closed beside : List Int) : List Int :=
  let once := stream key nonce 0 32
  let R := fw once 0 1152921487695413247 + fw once 8 1152921487695413244 * 18446744073709551616
  tg (absorb R (padA R (padA R 0 beside) closed) (put8 (put8 (List.replicate 16 0) 0 beside.length) 8 closed.length) % 1361129467683753853853498429727072845819 % 340282366920938463463374607431768211456 + ((w8 once 16).toNat + (w8 once 24).toNat * 18446744073709551616))
theorem sealT_length (key nonce closed beside : List Int) : (sealT key nonce closed beside).length = 16 := tg_length _

/-- A whole row is loaded in a region whose order is open. -/
theorem wpStill_load_row {P : Program} {ops : Array Oper} {w : World} {Q : Act → Prop} {rest : List Oper} {o : Oper} {a : Act} (hgd : o.guard = none) (ty : TypeId) (x : Operand) (ho : o.op = .load ty x)
    (g : Nat) (hx : a.eval x = .pointer (some ⟨g, 0, none⟩)) (t : TypeId) (cs : Array Value) (fr : Nat × Nat) (d : TypeDesc) (hg : w.heap[g]? = some (.cells cs t fr))
    (hu : P.underlying ty = some d) (hd : (match d with | .struct _ | .array _ _ => true | _ => false) = true) (hi : (P.info? ty).map (·.size) = some cs.size)
    (h : wpStill P ops w Q rest (a.put o.dst (.agg cs))) : wpStill P ops w Q (o :: rest) a :=
  wpStill_step fun K hK => by
    have e : Region.wanted o (yielded ops a.tmps) = true := by simp [Region.wanted, hgd]
    rw [if_pos e]
    unfold Oper.still execOp
    simp only [ho, hx, Instr.loadAt, Instr.sureAddr, Sem.run_bind, Sem.run_pure, Result.andThen_ok, run_loadVar_row w g t ty cs fr d hg hu hd hi]
    rw [Oper.stillUpon_value]
    exact hK _ h

theorem put4_bytes {l : List Int} (h : Bytes l) (o : Nat) (v : Int) : Bytes (put4 l o v) := ((h.take _).append (le4_bytes v)).append (h.drop _)
theorem put8_bytes {l : List Int} (h : Bytes l) (o : Nat) (v : Int) : Bytes (put8 l o v) := by
  unfold put8
  exact put4_bytes (put4_bytes h _ _) _ _
theorem sealT_bytes (key nonce closed beside : List Int) : Bytes (sealT key nonce closed beside) := put8_bytes (put8_bytes (zeros_bytes _) _ _) _ _

set_option maxHeartbeats 1600000 in
theorem sealTag_any (key nonce closed beside : List Int) (A B : Option Addr) (c d : Nat) (w : World) (hk : key.length = 32) (hkb : Bytes key) (hnl : nonce.length = 12) (hnb : Bytes nonce)
    (hc : Rd w A closed) (hcb : Bytes closed) (hcc : closed.length ≤ c) (hcm : c ≤ 9223372036854775807) (hb : Rd w B beside) (hbb : Bytes beside) (hdd : beside.length ≤ d) (hdm : d ≤ 9223372036854775807) :
    Calls Tryd.prog 41 #[.agg (IV .u8 key).toArray, .agg (IV .u8 nonce).toArray, .slice A closed.length c, .slice B beside.length d] w fun e w' =>
      e = .returned (.agg (IV .u8 (sealT key nonce closed beside)).toArray) ∧ Below w.heap.size w w' := by
  obtain ⟨OUT, hOUT⟩ : ∃ OUT, OUT = (IV .u8 (sealT key nonce closed beside)).toArray := ⟨_, rfl⟩
  rw [← hOUT]
  have HOUT := Lib.hid hOUT
  have CX := Lib.hid (fun (g : Nat) W (hb : Blk W g 22 (IV .u8 (List.replicate 32 0)).toArray) => xor_any g 22 (List.replicate 32 0) [] 32 key nonce 0 W (by rw [List.append_nil]; exact hb) (zeros_bytes 32) (by simp) (by omega) hk hkb hnl hnb (by unfold W32; omega))
  rw [List.length_replicate, xorb_stream, List.append_nil] at CX
  obtain ⟨KA, hKA⟩ : ∃ KA, KA = (IV .u8 key).toArray := ⟨_, rfl⟩
  obtain ⟨NA, hNA⟩ : ∃ NA, NA = (IV .u8 nonce).toArray := ⟨_, rfl⟩
  rw [← hKA, ← hNA] at CX ⊢
  obtain ⟨once, honce⟩ : ∃ o, o = stream key nonce 0 32 := ⟨_, rfl⟩
  have HO := Lib.hid honce
  have hol : once.length = 32 := by rw [honce, stream_length]
  have hob : Bytes once := by rw [honce]; exact stream_bytes _ _ _ _
  rw [← honce] at CX
  have CN := Lib.hid (fun W => newAuthenticator_any once W hol hob)
  obtain ⟨OA, hOA⟩ : ∃ OA, OA = (IV .u8 once).toArray := ⟨_, rfl⟩
  rw [← hOA] at CX CN
  have SK := Lib.hid (show KA.size = 32 by rw [hKA]; simp [IV, hk])
  have SN := Lib.hid (show NA.size = 12 by rw [hNA]; simp [IV, hnl])
  have SO := Lib.hid (show OA.size = 32 by rw [hOA]; simp [IV, hol])
  have I32 := Lib.hid (show (Tryd.prog.info? 22).map (·.size) = some 32 by kernel_rfl)
  have I12 := Lib.hid (show (Tryd.prog.info? 32).map (·.size) = some 12 by kernel_rfl)
  have I16 := Lib.hid (show (Tryd.prog.info? 78).map (·.size) = some 16 by kernel_rfl)
  have HC := Lib.hid hc
  have HB := Lib.hid hb
  have HOB := Lib.hid hob
  have HCB := Lib.hid hcb
  have HBB := Lib.hid hbb
  have hz32 : ∀ W : World, (Instr.sliceAt 22 (.pointer (some ⟨w.heap.size + 1 + 1 + 1, 0, none⟩)) none none none).run Tryd.prog W = _ := slice_arr32z _
  clear hOUT hKA hNA hk hkb hnl hnb honce hol hob hOA hc hb hcb hbb
  go_enter Tryd.func41, Tryd.ntmps41
  go_wp2_with fail
  obtain ⟨W, hW⟩ : ∃ W, W = (((w.alloc (.cells KA 22)).alloc (.cells NA 32)).alloc (.cells (IV .u8 (List.replicate 16 0)).toArray 78)).alloc (.cells (IV .u8 (List.replicate 32 0)).toArray 22) := ⟨_, rfl⟩
  obtain ⟨gO, hgO⟩ : ∃ g, g = w.heap.size + 1 + 1 + 1 := ⟨_, rfl⟩
  have bk : Blk W w.heap.size 22 KA := by rw [hW]; exact (((Blk.new w _ KA).alloc _).alloc _).alloc _
  have bn : Blk W (w.heap.size + 1) 32 NA := by rw [hW]; exact ((blk_second w _ _ NA).alloc _).alloc _
  have br : Blk W (w.heap.size + 1 + 1) 78 (IV .u8 (List.replicate 16 0)).toArray := by
    rw [hW]
    have h := (blk_second (w.alloc (.cells KA 22)) (.cells NA 32) 78 (IV .u8 (List.replicate 16 0)).toArray).alloc (.cells (IV .u8 (List.replicate 32 0)).toArray 22)
    simpa using h
  have bo : Blk W gO 22 (IV .u8 (List.replicate 32 0)).toArray := by
    rw [hW, hgO]
    have h := blk_second ((w.alloc (.cells KA 22)).alloc (.cells NA 32)) (.cells (IV .u8 (List.replicate 16 0)).toArray 78) 22 (IV .u8 (List.replicate 32 0)).toArray
    simpa using h
  have bl : Below w.heap.size w W := by rw [hW]; exact ((((Below.refl _ _).alloc (Nat.le_refl _) _).alloc (by simp) _).alloc (by simp; omega) _).alloc (by simp; omega) _
  show Code.wp _ _ _ _ ((((w.alloc (.cells KA 22)).alloc (.cells NA 32)).alloc (.cells (IV .u8 (List.replicate 16 0)).toArray 78)).alloc (.cells (IV .u8 (List.replicate 32 0)).toArray 22))
  rw [← hW, ← hgO]
  rw [← hgO] at hz32
  have HGO := Lib.hid hgO
  clear hW hgO
  refine wp_region_still_tail 3 (by kernel_rfl) (by kernel_rfl) ?_
  simp only [List.take_succ_cons, List.take_zero, List.drop_succ_cons, List.drop_zero]
  change wpStill _ _ W.drew (fun a' => wpList _ _ _ _ a' W.drew) _ _
  have dk : Blk W.drew w.heap.size 22 KA := bk
  have dn : Blk W.drew (w.heap.size + 1) 32 NA := bn
  have dr : Blk W.drew (w.heap.size + 1 + 1) 78 (IV .u8 (List.replicate 16 0)).toArray := br
  have dO : Blk W.drew gO 22 (IV .u8 (List.replicate 32 0)).toArray := bo
  have dl : Below w.heap.size w W.drew := bl.drew
  clear bk bn br bo bl
  generalize W.drew = w1 at dk dn dr dO dl ⊢
  still_step
  refine wpStill_load_row rfl 22 (.tmp 4) rfl w.heap.size rfl 22 KA (0, 0) _ dk Tryd.underlying22 rfl (by rw [SK.out]; exact I32.out) ?_
  refine wpStill_load_row rfl 32 (.tmp 5) rfl (w.heap.size + 1) rfl 32 NA (0, 0) _ dn Tryd.underlying32 rfl (by rw [SN.out]; exact I12.out) ?_
  refine wpStill_nil ?_
  have hlg : w.heap.size + 1 + 1 < gO := by have := HGO.out; omega
  clear hz32
  go_wp2_with fail
  refine (CX.out gO _ dO).mono ?_
  rintro e w2 ⟨rfl, bo, gr⟩
  have RK := Lib.hid (show Blk w2 (w.heap.size + 1 + 1) 78 (IV .u8 (List.replicate 16 0)).toArray from dr.grown gr (by intro h; injection h; omega))
  have BO := Lib.hid bo
  have BL := Lib.hid (show Below w.heap.size w w2 from grown_below dl gr dl.size (by omega))
  clear dk dn dr dO dl bo gr
  go_wp2_with (refine wpList_load_row rfl 22 _ rfl gO rfl 22 OA (0, 0) _ BO.out Tryd.underlying22 rfl (by rw [SO.out]; exact I32.out) ?_)
  refine (CN.out _).mono ?_
  rintro e w3 ⟨ga, rfl, hga, blk, b3⟩
  have au := Au.new HOB.out blk
  have hz := And.intro (w8_nat HOB.out 16).2 (w8_nat HOB.out 24).2
  have h3 : fw once 0 1152921487695413247 < 1152921504606846976 := fw_lt _ _ _ (by decide)
  have h4 : fw once 8 1152921487695413244 < 1152921504606846976 := fw_lt _ _ _ (by decide)
  obtain ⟨f0, hf0⟩ : ∃ f, f = fw once 0 1152921487695413247 := ⟨_, rfl⟩
  obtain ⟨f1, hf1⟩ : ∃ f, f = fw once 8 1152921487695413244 := ⟨_, rfl⟩
  obtain ⟨z0, hz0⟩ : ∃ f, f = (w8 once 16).toNat := ⟨_, rfl⟩
  obtain ⟨z1, hz1⟩ : ∃ f, f = (w8 once 24).toNat := ⟨_, rfl⟩
  rw [← hf0, ← hf1, ← hz0, ← hz1] at au
  rw [← hf0] at h3
  rw [← hf1] at h4
  rw [← hz0, ← hz1] at hz
  have HF := Lib.hid (And.intro (And.intro hf0 hf1) (And.intro hz0 hz1))
  have hg2 : w.heap.size + 1 + 1 < ga := by have := RK.out.lt; omega
  have RK3 := Lib.hid (RK.out.below b3 RK.out.lt)
  have BL3 := Lib.hid (BL.out.trans (b3.mono BL.out.size))
  have hg3 : ga < w3.heap.size := blk.lt
  have C1 := Lib.hid (writePadded_any ga 0 f0 f1 z0 z1 d B beside w w3 au HB.out (by omega) BL3.out HBB.out hdd hdm h3 h4)
  have s0 : w.heap.size ≤ w3.heap.size := BL3.out.size
  clear au blk b3 hf0 hf1 hz0 hz1 RK BL BO hga
  go_wp2_with fail
  refine C1.out.mono ?_
  rintro e w4 ⟨rfl, au, gr⟩
  obtain ⟨a1, ha1⟩ : ∃ a, a = padA (f0 + f1 * 18446744073709551616) 0 beside := ⟨_, rfl⟩
  rw [← ha1] at au
  have HA1 := Lib.hid ha1
  have RK4 := Lib.hid (RK3.out.grown gr (by intro h; injection h; omega))
  have BL4 := Lib.hid (grown_below BL3.out gr s0 (by omega))
  have hg4 : ga < w4.heap.size := Nat.lt_of_lt_of_le hg3 gr.size
  have C2 := Lib.hid (writePadded_any ga a1 f0 f1 z0 z1 c A closed w w4 au HC.out (by omega) BL4.out HCB.out hcc hcm h3 h4)
  have s4 : w.heap.size ≤ w4.heap.size := BL4.out.size
  clear au gr RK3 BL3 C1 ha1
  go_wp2_with fail
  refine C2.out.mono ?_
  rintro e w5 ⟨rfl, au, gr⟩
  obtain ⟨a2, ha2⟩ : ∃ a, a = padA (f0 + f1 * 18446744073709551616) a1 closed := ⟨_, rfl⟩
  rw [← ha2] at au
  have HA2 := Lib.hid ha2
  have RK5 := Lib.hid (RK4.out.grown gr (by intro h; injection h; omega))
  have BL5 := Lib.hid (grown_below BL4.out gr s4 (by omega))
  have hg5 : ga < w5.heap.size := Nat.lt_of_lt_of_le hg4 gr.size
  have AU5 := Lib.hid au
  have s5 : w.heap.size ≤ w5.heap.size := BL5.out.size
  clear au gr RK4 BL4 C2 ha2
  have y1 := slice_arr16_8 w5.heap.size
  have y2 := slice_arr16_from8 w5.heap.size
  have y3 := slice_arr16z w5.heap.size
  go_wp2_with fail
  obtain ⟨gl, hgl⟩ : ∃ g, g = w5.heap.size := ⟨_, rfl⟩
  have bl0 : Blk (w5.alloc (.cells (IV .u8 (List.replicate 16 0)).toArray 78)) gl 78 (IV .u8 (List.replicate 16 0)).toArray := by rw [hgl]; exact Blk.new w5 _ _
  have lv : ((beside.length : Int)) < 18446744073709551616 := by omega
  have lv2 : ((closed.length : Int)) < 18446744073709551616 := by omega
  have P1 := Lib.hid (putWord64_any gl 78 (List.replicate 16 0) 0 8 16 (beside.length : Int) _ bl0 (by omega) (by omega) (by omega) (by omega) (by simp))
  have hga5 : ga < gl := by omega
  have hgw5 : w.heap.size + 1 + 1 < gl := by omega
  have AUa := Lib.hid (AU5.out.below (show Below w5.heap.size w5 (w5.alloc (.cells (IV .u8 (List.replicate 16 0)).toArray 78)) from (Below.refl _ _).alloc (Nat.le_refl _) _) hg5)
  have RKa := Lib.hid (RK5.out.alloc (.cells (IV .u8 (List.replicate 16 0)).toArray 78))
  have BLa := Lib.hid (BL5.out.alloc s5 (.cells (IV .u8 (List.replicate 16 0)).toArray 78))
  have sa : w.heap.size ≤ (w5.alloc (.cells (IV .u8 (List.replicate 16 0)).toArray 78)).heap.size := by simp; omega
  rw [← hgl] at y1 y2 y3 ⊢
  clear bl0 hgl AU5 RK5 BL5
  refine P1.out.mono ?_
  rintro e w6 ⟨rfl, bl6, g6⟩
  obtain ⟨L1, hL1⟩ : ∃ L, L = put8 (List.replicate 16 0) 0 (beside.length : Int) := ⟨_, rfl⟩
  rw [← hL1] at bl6
  have l1 : L1.length = 16 := by rw [hL1, put8_length _ _ _ (by simp)]; simp
  have HL1 := Lib.hid hL1
  have P2 := Lib.hid (putWord64_any gl 78 L1 8 8 8 (closed.length : Int) w6 bl6 (by omega) (by omega) (by omega) (by omega) (by omega))
  have au6 : Au w6 ga a2 f0 f1 z0 z1 := by
    obtain ⟨t0, t1, t2, k, r⟩ := AUa.out.words
    exact ⟨t0, t1, t2, k.grown g6 (by intro h; injection h; omega), r⟩
  have AU6 := Lib.hid au6
  have RK6 := Lib.hid (RKa.out.grown g6 (by intro h; injection h; omega))
  have BL6 := Lib.hid (grown_below BLa.out g6 sa (by omega))
  have s6 : w.heap.size ≤ w6.heap.size := BL6.out.size
  clear bl6 g6 au6 AUa RKa BLa P1 y1 hL1 sa
  go_wp2_with fail
  refine P2.out.mono ?_
  rintro e w7 ⟨rfl, bl7, g7⟩
  obtain ⟨L2, hL2⟩ : ∃ L, L = put8 L1 8 (closed.length : Int) := ⟨_, rfl⟩
  rw [← hL2] at bl7
  have l2 : L2.length = 16 := by rw [hL2, put8_length _ _ _ (by omega)]; exact l1
  have HL2 := Lib.hid hL2
  have au7 : Au w7 ga a2 f0 f1 z0 z1 := by
    obtain ⟨t0, t1, t2, k, r⟩ := AU6.out.words
    exact ⟨t0, t1, t2, k.grown g7 (by intro h; injection h; omega), r⟩
  have hg7 : ga < w7.heap.size := by obtain ⟨_, _, _, k, _⟩ := au7.words; exact k.lt
  have C3 := Lib.hid (write_all ga a2 f0 f1 z0 z1 16 (some ⟨gl, 0, none⟩) L2 w7 au7 bl7.rd (fun a e _ => by injection e with e; subst e; exact Nat.ne_of_gt hga5)
      (by rw [hL2, HL1.out]; exact put8_bytes (put8_bytes (zeros_bytes _) _ _) _ _) (by omega) (by omega) h3 h4)
  rw [l2] at C3
  have RK7 := Lib.hid (RK6.out.grown g7 (by intro h; injection h; omega))
  have BL7 := Lib.hid (grown_below BL6.out g7 s6 (by omega))
  have s7 : w.heap.size ≤ w7.heap.size := BL7.out.size
  clear bl7 g7 au7 AU6 RK6 BL6 P2 y2 hL2 l1 l2
  go_wp2_with fail
  refine C3.out.mono ?_
  rintro e w8 ⟨rfl, au8, g8⟩
  have C4 := Lib.hid (tag_any ga _ f0 f1 z0 z1 w8 au8 hz.1 hz.2)
  have RK8 := Lib.hid (RK7.out.grown g8 (by intro h; injection h; omega))
  have BL8 := Lib.hid (grown_below BL7.out g8 s7 (by omega))
  have s8 : w.heap.size ≤ w8.heap.size := BL8.out.size
  have hfin : (IV .u8 (tg (absorb (f0 + f1 * 18446744073709551616) a2 L2 % 1361129467683753853853498429727072845819 % 340282366920938463463374607431768211456 + (z0 + z1 * 18446744073709551616)))).toArray = OUT := by
    rw [HOUT.out, HL2.out, HL1.out, HA2.out, HA1.out, HF.out.1.1, HF.out.1.2, HF.out.2.1, HF.out.2.2, HO.out]
    rfl
  have HFI := Lib.hid hfin
  clear au8 g8 RK7 BL7 C3 y3 hfin
  have SOUT := Lib.hid (show OUT.size = 16 by rw [HOUT.out]; simp [IV, sealT_length])
  have AOUT := Lib.hid (show OUT.all (·.oneCell') = true by rw [HOUT.out]; simp [IV, Value.oneCell'])
  go_wp2_with fail
  refine C4.out.mono ?_
  rintro e w9 ⟨rfl, b9⟩
  rw [HFI.out]
  have RK9 := Lib.hid (RK8.out.below b9 RK8.out.lt)
  have BL9 := Lib.hid (BL8.out.trans (b9.mono s8))
  clear b9
  go_wp2_with (refine wpList_store_row rfl 78 _ _ rfl (w.heap.size + 1 + 1) OUT rfl rfl 78 _ RK9.out (by rw [SOUT.out]; exact I16.out) (by rw [SOUT.out]; rfl) AOUT.out ?_)
  refine bodyPost_ret (v := .agg OUT) (results_cell_row rfl _ _ (w.heap.size + 1 + 1) 78 _ (0, 0) _ rfl (Blk.row RK9.out _) Tryd.underlying78 rfl (by rw [SOUT.out]; exact I16.out)) rfl ⟨rfl, ?_⟩
  exact below_setRow BL9.out (by omega) _
end Go.Proofs.YtjibbegdieiknaaDoor

/-
  Close.
-/
namespace Go.Proofs.YtjibbegdieiknaaDoor
set_option maxRecDepth 100000
open Go.RowKit
set_option linter.unusedVariables false

/-- What is closed, without its tag; and with it. -/
def encE (key nonce plain : List Int) : List Int := xorb plain (stream key nonce 1 plain.length)
def closeL (key nonce plain beside : List Int) : List Int := encE key nonce plain ++ sealT key nonce (encE key nonce plain) beside
theorem encE_length (key nonce plain : List Int) : (encE key nonce plain).length = plain.length := xorb_length (by rw [stream_length]; exact Nat.le_refl _)
theorem encE_bytes {key nonce plain : List Int} (h : Bytes plain) : Bytes (encE key nonce plain) := xorb_bytes h (stream_bytes _ _ _ _)
theorem closeL_length (key nonce plain beside : List Int) : (closeL key nonce plain beside).length = plain.length + 16 := by
  rw [closeL, List.length_append, encE_length, sealT_length]
theorem Own.part {w : World} {g base c : Nat} {l rest : List Int} (h : Blk w g 5 (IV .u8 (l ++ rest)).toArray) (hb : base ≤ g) (hc : c = l.length + rest.length) (hm : c ≤ 70368744177664) : Own w base (some ⟨g, 0, none⟩) c l :=
  ⟨by simp [U8], .inr ⟨g, c, _, rfl, hb, h, by omega, by unfold maxLen; omega, by simp [IV]; omega, by simp [IV, U8]⟩⟩
theorem splice_front (z : Nat) (p : List Int) : splice (IV .u8 (List.replicate (p.length + z) 0)) 0 (IV .u8 p) = IV .u8 (p ++ List.replicate z 0) := by
  unfold splice
  rw [IV_append, IV_length, Nat.zero_add]
  simp only [IV, List.take_zero, List.nil_append, ← List.map_drop, List.drop_replicate, Nat.add_sub_cancel_left]

set_option maxHeartbeats 1600000 in
theorem Close_any (key nonce plain beside : List Int) (A B : Option Addr) (c d : Nat) (w : World) (hk : key.length = 32) (hkb : Bytes key) (hnl : nonce.length = 12) (hnb : Bytes nonce)
    (hp : Rd w A plain) (hpb : Bytes plain) (hpc : plain.length ≤ c) (hcm : c ≤ 9223372036854775807) (hb : Rd w B beside) (hbb : Bytes beside) (hdd : beside.length ≤ d) (hdm : d ≤ 9223372036854775807) (hpl : plain.length ≤ 1000000) :
    Calls Tryd.prog 24 #[.agg (IV .u8 key).toArray, .agg (IV .u8 nonce).toArray, .slice A plain.length c, .slice B beside.length d] w fun e w' =>
      ∃ A' c', e = .returned (.slice A' (plain.length + 16) c') ∧ Own w' w.heap.size A' c' (closeL key nonce plain beside) ∧ Below w.heap.size w w' := by
  obtain ⟨E, hE⟩ : ∃ E, E = encE key nonce plain := ⟨_, rfl⟩
  have hEl : E.length = plain.length := by rw [hE, encE_length]
  have hEb : Bytes E := by rw [hE]; exact encE_bytes hpb
  have CX := Lib.hid (fun (g : Nat) W (hb : Blk W g 5 (IV .u8 (plain ++ List.replicate 16 0)).toArray) => xor_any g 5 plain (List.replicate 16 0) (plain.length + 16) key nonce 1 W hb hpb (by omega) (by omega) hk hkb hnl hnb (by unfold W32; omega))
  rw [show xorb plain (stream key nonce 1 plain.length) = E from hE.symm] at CX
  have CS := Lib.hid (fun (g : Nat) W (hr : Rd W (some ⟨g, 0, none⟩) E) (hb : Rd W B beside) => sealTag_any key nonce E beside (some ⟨g, 0, none⟩) B (plain.length + 16) d W hk hkb hnl hnb hr hEb (by omega) (by omega) hb hbb hdd hdm)
  rw [hEl] at CS
  obtain ⟨T, hT⟩ : ∃ T, T = sealT key nonce E beside := ⟨_, rfl⟩
  have hTl : T.length = 16 := by rw [hT, sealT_length]
  rw [← hT] at CS
  obtain ⟨KA, hKA⟩ : ∃ KA, KA = (IV .u8 key).toArray := ⟨_, rfl⟩
  obtain ⟨NA, hNA⟩ : ∃ NA, NA = (IV .u8 nonce).toArray := ⟨_, rfl⟩
  rw [← hKA, ← hNA] at CX CS ⊢
  have hOut : closeL key nonce plain beside = E ++ T := by rw [closeL, ← hE, ← hT]
  rw [hOut]
  have SK := Lib.hid (show KA.size = 32 by rw [hKA]; simp [IV, hk])
  have SN := Lib.hid (show NA.size = 12 by rw [hNA]; simp [IV, hnl])
  have I32 := Lib.hid (show (Tryd.prog.info? 22).map (·.size) = some 32 by kernel_rfl)
  have I12 := Lib.hid (show (Tryd.prog.info? 32).map (·.size) = some 12 by kernel_rfl)
  have I16 := Lib.hid (show (Tryd.prog.info? 78).map (·.size) = some 16 by kernel_rfl)
  have HP := Lib.hid hp
  have HB := Lib.hid hb
  have HEL := Lib.hid hEl
  have HTL := Lib.hid hTl
  have hmk := fun W => mk_z plain.length (plain.length + 16) plain.length (plain.length + 16) rfl (by simp) (by omega) (by omega) W
  clear hKA hNA hk hkb hnl hnb hE hEl hEb hT hTl hOut hp hb hpb hbb
  go_enter Tryd.func24, Tryd.ntmps24
  have bl0 : Blk (((w.alloc (.cells KA 22)).alloc (.cells NA 32)).alloc (.cells (IV .u8 (List.replicate (plain.length + 16) 0)).toArray 5)) (w.heap.size + 1 + 1) 5 (IV .u8 (List.replicate (plain.length + 16) 0)).toArray := by
    have h := blk_second (w.alloc (.cells KA 22)) (.cells NA 32) 5 (IV .u8 (List.replicate (plain.length + 16) 0)).toArray
    simpa using h
  have BK0 := Lib.hid bl0
  have eln : (IV IntKind.u8 plain).length = plain.length := IV_length _ _
  clear bl0
  go_wp2_with (first
    | (refine wpList_copy_splice rfl (.tmp 17) (.tmp 18) 23 23 rfl 5 rfl rfl _ _ plain.length (plain.length + 16) plain.length c rfl rfl (w.heap.size + 1 + 1) 0 (IV .u8 (List.replicate (plain.length + 16) 0)) 5 BK0.out (IV .u8 plain) (by rw [eln]; exact (Nat.min_self _).symm) (fun hn => ⟨rfl, (by
            obtain ⟨ad, e, _, hc⟩ := (((HP.out.alloc _).alloc _).alloc _).2 (by simpa [IV] using hn)
            exact ⟨ad, e, hc⟩)⟩) (by rw [eln, IV_length]; simp) (IV_oneCell _ _) (w.heap.size + 1 + 1) _ (Below.refl _ _) (Nat.le_refl _) ?_
       rw [eln]
       intro w3 h3 b3
       have H3 := Lib.hid (show Blk w3 (w.heap.size + 1 + 1) 5 (IV .u8 (plain ++ List.replicate 16 0)).toArray from (by have h := h3.out; rw [splice_front] at h; exact h))
       have BL3 := Lib.hid (show Below w.heap.size w w3 from ((((Below.refl _ _).alloc (Nat.le_refl _) _).alloc (by simp) _).alloc (by simp; omega) _).trans (b3.mono (by omega)))
       have KA3 := Lib.hid (show Blk w3 w.heap.size 22 KA from (((Blk.new w _ KA).alloc _).alloc _).below b3 (by omega))
       have NA3 := Lib.hid (show Blk w3 (w.heap.size + 1) 32 NA from ((blk_second w _ _ NA).alloc _).below b3 (by omega))
       clear h3 b3)
    | refine wpList_load_row rfl 22 (.tmp 4) rfl w.heap.size rfl 22 KA (0, 0) _ KA3.out Tryd.underlying22 rfl (by rw [SK.out]; exact I32.out) ?_
    | refine wpList_load_row rfl 32 (.tmp 5) rfl (w.heap.size + 1) rfl 32 NA (0, 0) _ NA3.out Tryd.underlying32 rfl (by rw [SN.out]; exact I12.out) ?_)
  obtain ⟨g, hg⟩ : ∃ g, g = w.heap.size + 1 + 1 := ⟨_, rfl⟩
  rw [← hg] at H3 ⊢
  have HG := Lib.hid hg
  have hgl : w.heap.size + 1 < g := by omega
  clear hg BK0 hmk
  refine (CX.out _ _ H3.out).mono ?_
  rintro e w4 ⟨rfl, bl4, g4⟩
  have KA4 := Lib.hid (KA3.out.grown g4 (by intro h; injection h; omega))
  have NA4 := Lib.hid (NA3.out.grown g4 (by intro h; injection h; omega))
  have BL4 := Lib.hid (grown_below BL3.out g4 BL3.out.size (by omega))
  have BK4 := Lib.hid bl4
  have RE4 := Lib.hid (show Rd w4 (some ⟨g, 0, none⟩) E by
    have h := bl4.rd.upto (k := E.length) (by simp)
    rwa [List.take_left'] at h
    rfl)
  clear H3 KA3 NA3 BL3 bl4 g4
  have CT := Lib.hid (CS.out g w4 RE4.out (HB.out.below BL4.out))
  clear CS CX
  go_wp2_with (first
    | refine wpList_load_row rfl 22 (.tmp 4) rfl w.heap.size rfl 22 KA (0, 0) _ KA4.out Tryd.underlying22 rfl (by rw [SK.out]; exact I32.out) ?_
    | refine wpList_load_row rfl 32 (.tmp 5) rfl (w.heap.size + 1) rfl 32 NA (0, 0) _ NA4.out Tryd.underlying32 rfl (by rw [SN.out]; exact I12.out) ?_)
  refine CT.out.mono ?_
  rintro e w5 ⟨rfl, b5⟩
  have BL5 := Lib.hid (BL4.out.trans (b5.mono BL4.out.size))
  have BK5 := Lib.hid (BK4.out.below b5 BK4.out.lt)
  have hg5 : g < w5.heap.size := BK5.out.lt
  obtain ⟨TA, hTA⟩ : ∃ TA, TA = (IV .u8 T).toArray := ⟨_, rfl⟩
  rw [← hTA]
  have HTA := Lib.hid hTA
  have ST := Lib.hid (show TA.size = 16 by rw [hTA]; simp [IV, HTL.out])
  have AT := Lib.hid (show TA.all (·.oneCell') = true by rw [hTA]; simp [IV, Value.oneCell'])
  clear KA4 NA4 BL4 BK4 RE4 CT b5 hTA
  have y3 := slice_arr16z w5.heap.size
  obtain ⟨Z16, hZ16⟩ : ∃ Z, Z = (IV .u8 (List.replicate 16 0)).toArray := ⟨_, rfl⟩
  have hz16 : ∀ w, (zeroValue 78).run Tryd.prog w = .ok (.agg Z16) w := by rw [hZ16]; exact fun w => rfl
  have ZS16 := Lib.hid (show Z16.size = 16 by rw [hZ16]; rfl)
  clear hZ16
  go_wp2_with (first
    | (refine wpList_store_row rfl 78 (.tmp 10) (.tmp 28) rfl w5.heap.size TA rfl rfl 78 Z16 (Blk.new w5 _ _) (by rw [ST.out]; exact I16.out) (by rw [ST.out, ZS16.out]) AT.out ?_
       have T6 := Lib.hid (Blk.row (Blk.new w5 78 Z16) TA)
       have B6 := Lib.hid (below_setRow ((Below.refl w5.heap.size w5).alloc (Nat.le_refl _) (.cells Z16 78)) (Nat.le_refl _) TA)
       generalize (w5.alloc (.cells Z16 78)).setRow w5.heap.size TA = w6 at T6 B6 ⊢
       have R6 := Lib.hid (show Rd w6 (some ⟨w5.heap.size, 0, none⟩) T by have h := T6.out; rw [HTA.out] at h; exact h.rd)
       have O6 := Lib.hid (show Own w6 w.heap.size (some ⟨g, 0, none⟩) (plain.length + 16) E from Own.part (BK5.out.below B6.out hg5) (by omega) (by have := HEL.out; simp; omega) (by omega))
       have BL6 := Lib.hid (BL5.out.trans (B6.out.mono BL5.out.size)))
    | (refine wpList_app rfl (.tmp 29) (.tmp 30) rfl w.heap.size (A := some ⟨g, 0, none⟩) (c := plain.length + 16) (l := E) (B := some ⟨w5.heap.size, 0, none⟩) (d := 16) (news := T) (by rw [HEL.out]; rfl) (by rw [HTL.out]; rfl) O6.out R6.out (by rw [HEL.out, HTL.out]; omega) BL6.out.size ?_
       intro A' c' w7 o7 g7 b7
       have O7 := Lib.hid o7
       have BL7 := Lib.hid (BL6.out.trans b7)
       rw [HEL.out, HTL.out]
       clear o7 g7 b7))
  go_ret
  exact ⟨_, _, rfl, O7.out, BL7.out⟩
end Go.Proofs.YtjibbegdieiknaaDoor
