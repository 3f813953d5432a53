/-
  QuiltPlays.
-/
import Derived.Test.YtdafeokjedmnkaaDoorQuiltY
import Derived.Deep.DeepCutAuto
import Derived.Deep.CutBlock
import Derived.Deep.RegionHeld3
namespace Go.Proofs.YtdafeokjedmnkaaDoor
open Go.RowKit Go.Maps
set_option linter.unusedVariables false
set_option linter.unusedSimpArgs false
/-- However it went, at most so many places are new. -/
theorem putT_any {s s' : QS} {off : Int} {p : List Int} {e : Bool} {c : Int} (h1 : c = 0 → PutTo s off p e s') (h2 : c ≠ 0 → s' = s) : s'.T.length ≤ s.T.length + p.length := by
  by_cases h : c = 0
  · rw [(h1 h).T, List.length_append]
    have := news_len s.f off p.length
    omega
  · rw [h2 h]
    omega
theorem bytes_tk {s : QS} (ok : QOk s) (r : Int) (N : Nat) : Bytes (tk s.f r N) := by
  intro b hb
  obtain ⟨i, hi, e⟩ := List.getElem_of_mem hb
  have hi' : i < N := by simpa [tk_len] using hi
  have h := tk_get s.f r N i hi'
  rw [List.getElem?_eq_getElem hi, e] at h
  injection h with h
  rcases hf : s.f (r + i) with _ | v
  · rw [hf] at h
    simp at h
    omega
  · rw [hf] at h
    simp at h
    subst h
    exact ok.came.by_ _ _ hf
theorem same_n (A B : Option Addr) (c d : Nat) (l : List Int) (N : Nat) (hl : l.length = N) (w : World) (ha : Rd w A l) (hb : Rd w B l) (h1 : Bytes l) :
    Calls Tryd.prog 17 #[.slice A N c, .slice B N d] w fun e w' => e = .returned (.bool true) ∧ w = w' := by
  subst hl
  exact same_yes A B c d l l w ha hb h1 rfl
theorem ne_start {w : World} {base g n B : Nat} {s : QS} (h : Qlt w base g n s) (hB : w.heap.size ≤ B) : w.cell? ⟨g, 0, none⟩ ≠ some (.map (some B)) := by
  obtain ⟨M, hq, hp⟩ := h.q
  rw [hq.cell 0]
  rcases hp with ⟨rfl, _⟩ | ⟨B', pt, rfl, h3⟩
  · simp [QV]
  · have := h3.map.lt
    simp [QV]
    omega
section
variable {w W W' : World} {base g x B m n m' n' : Nat} {s t s' t' : QS}
theorem St.Put_ (h : St w W base g x B m n s t) (ht : TabT w) (hgl : 0 < w.heap.size) {b c : Nat} {A : Option Addr} {p : List Int} (o : Own W b A c p) (hb : Bytes p) (hm : m ≤ 1000000000) {off : Int} (hw : (Lit.int .u64 off).wf = true) (hl : p.length ≤ 100000) (hT : s.T.length ≤ 1000000) (e : Bool) {cd : Int} (hc : cd = putCode s off p.length e) :
    Calls Tryd.prog 18 #[.pointer (some ⟨g, 0, none⟩), .int .u64 off, .slice A p.length c, .bool e] W fun r W' => r = .returned (.int .i64 cd) ∧ (∃ s', (putCode s off p.length e = 0 → PutTo s off p e s') ∧ (putCode s off p.length e ≠ 0 → s' = s) ∧ St w W' base g x B (m + p.length) n s' t) ∧ KeepT W W' g ∧ Below base W W' := by
  rw [hc]
  exact h.Put ht hgl o hb hm hw hl hT e
theorem St.Close_ (h : St w W base g x B m n s t) (ht : TabT w) (hgl : 0 < w.heap.size) (hm : m ≤ 1000000000) {off : Int} (hw : (Lit.int .u64 off).wf = true) (hT : s.T.length ≤ 1000000) {cd : Int} (hc : cd = putCode s off 0 true) :
    Calls Tryd.prog 13 #[.pointer (some ⟨g, 0, none⟩), .int .u64 off] W fun r W' => r = .returned (.int .i64 cd) ∧ (∃ s', (putCode s off 0 true = 0 → PutTo s off [] true s') ∧ (putCode s off 0 true ≠ 0 → s' = s) ∧ St w W' base g x B m n s' t) ∧ KeepT W W' g ∧ Below base W W' := by
  rw [hc]
  exact h.Close ht hgl hm hw hT
theorem St.rPut_ (h : St w W base g x B m n s' t) (ok : QOk t) {b c : Nat} {A : Option Addr} {p : List Int} (o : Own W b A c p) (hb : Bytes p) (hn : n ≤ 1000000000) {off : Int} (hw : (Lit.int .u64 off).wf = true) (hl : p.length ≤ 100000) (e : Bool)
    (h1 : putCode t off p.length e = 0 → PutTo t off p e s') (h2 : putCode t off p.length e ≠ 0 → s' = t) {cd : Int} (hc : cd = putCode t off p.length e) :
    Calls Tryd.prog 14 #[.pointer (some ⟨x, 0, none⟩), .int .u64 off, .slice A p.length c, .bool e] W fun r W' => r = .returned (.int .i64 cd) ∧ St w W' base g x B m (n + p.length) s' s' ∧ Two W W' x B := by
  rw [hc]
  exact h.rPut ok o hb hn hw hl e h1 h2
theorem St.rClose_ (h : St w W base g x B m n s' t) (ok : QOk t) (hn : n ≤ 1000000000) {off : Int} (hw : (Lit.int .u64 off).wf = true)
    (h1 : putCode t off 0 true = 0 → PutTo t off [] true s') (h2 : putCode t off 0 true ≠ 0 → s' = t) {cd : Int} (hc : cd = putCode t off 0 true) :
    Calls Tryd.prog 14 #[.pointer (some ⟨x, 0, none⟩), .int .u64 off, .slice none 0 0, .bool true] W fun r W' => r = .returned (.int .i64 cd) ∧ St w W' base g x B m n s' s' ∧ Two W W' x B := by
  rw [hc]
  exact h.rClose ok hn hw h1 h2
theorem St.Take_ (h : St w W base g x B m n s t) {most : Int} (hm : (Lit.int .i64 most).wf = true) (hT : s.T.length ≤ 1000000) {N : Nat} (hN : N = takeN s most) {DB : Bool} (hD : DB = (s.en && decide (s.rd + N = s.hi))) :
    Calls Tryd.prog 15 #[.pointer (some ⟨g, 0, none⟩), .int .i64 most] W fun r W' => (∃ A c, r = .returned (.tuple #[.slice A N c, .bool DB]) ∧ Own W' W.heap.size A c (tk s.f s.rd N)) ∧ St w W' base g x B m n (qTake s N) t ∧ KeepT W W' g := by
  rw [hD]
  exact h.Take hm hT hN
theorem St.rTake_ (h : St w W base g x B m n s' t) (ok : QOk t) {most : Int} (hm : (Lit.int .i64 most).wf = true) (hT : t.T.length ≤ 1000000) {N : Nat} (hN : N = takeN t most) {DB : Bool} (hD : DB = (t.en && decide (t.rd + N = t.hi))) :
    Calls Tryd.prog 16 #[.pointer (some ⟨x, 0, none⟩), .int .i64 most] W fun r W' => (∃ A c, r = .returned (.tuple #[.slice A N c, .bool DB]) ∧ Own W' W.heap.size A c (tk t.f t.rd N)) ∧ St w W' base g x B m n s' (qTake t N) ∧ Two W W' x B := by
  rw [hD]
  exact h.rTake ok hm hT hN
end
set_option maxRecDepth 100000 in
set_option maxHeartbeats 40000000 in
theorem plays_some (A : Option Addr) (c : Nat) (l : List QuiltOp) (w : World) (ht : TabT w)
    (hr : RdT 5 QuiltOpC (QuiltOpOk w) w A l) (hlc : l.length ≤ c) (hcm : c ≤ 9223372036854775807) (hA : A = none → c = 0) :
    Calls Tryd.prog 3 #[.bool false, .slice A l.length c] w fun r w' => r = .returned (.bool true) ∧ Below w.heap.size w w' := by
  have hgl := ht.1
  have HT := Lib.hid ht
  have HR := Lib.hid hr
  have AW := awake10_any w ht
  clear ht hr hA
  go_enter Tryd.func3, Tryd.ntmps3
  go_wp2_with fail
  refine AW.mono ?_
  rintro r w1 ⟨rfl, b1⟩
  go_wp2_with fail
  refine (QNew_any w1).mono ?_
  rintro r w2 ⟨g, rfl, q2, b2⟩
  go_wp2_with fail
  refine (rNew_any w2).mono ?_
  rintro r w3 ⟨x, B, rfl, r3, hx, hB, b3⟩
  have hz1 := b1.size
  have hz2 := b2.size
  have S3 := Lib.hid (show St w w3 w1.heap.size g x B 0 0 qs0 qs0 from ⟨q2.keep b3, r3, cell0_below q2 (ne_start q2 hB) b3, (b1.trans (b2.mono hz1)).trans (b3.mono (Nat.le_trans hz1 hz2)), Nat.le_trans hz2 b3.size, hz1, by omega, by omega⟩)
  clear q2 r3 hx hB b1 b2 b3 hz1 hz2 AW
  go_wp2_with fail
  go_loopw [26] (fun i wr => ∃ (k m n : Nat) (s : QS), k ≤ l.length ∧ i = .int .i64 k ∧ m ≤ 60 * min k 40 ∧ n ≤ 60 * min k 40 ∧ s.T.length ≤ 60 * min k 40 ∧ Hid (St w wr w1.heap.size g x B m n s s)) (fun i _ => l.length - (intOf i).toNat)
  case atStart => exact ⟨0, 0, 0, qs0, by omega, rfl, by omega, by omega, by decide, S3⟩
  case round =>
    obtain ⟨k, m, n, s, hk, rfl, hm, hn, hT, S⟩ := hrel
    clear S3
    by_cases hlt : k < l.length
    · obtain ⟨b, off, x', rfl, hb, hx, hok, hc⟩ := (HR.out.below S.out.b).at_ hlt
      have q0 := hc 0 (by omega)
      have q1 := hc 1 (by omega)
      have q2 := hc 2 (by omega)
      have q3 := hc 3 (by omega)
      have q4 := hc 4 (by omega)
      clear hc hx
      obtain ⟨d, o, pA, pc, pp, pe, pn⟩ := x'
      obtain ⟨x0, x1, ⟨x2, x3⟩, x4, _⟩ := hok
      simp [QuiltOpC] at q0 q1 q2 q3 q4 x0 x1 x2 x3 x4
      have hd0 := u8_range' x0
      obtain ⟨W, hW⟩ : ∃ W, W = wr.alloc (.cells #[.int .u8 d, .int .u64 o, .slice pA pp.length pc, .bool pe, .int .i64 pn] 31) := ⟨_, rfl⟩
      have SW := Lib.hid (show St w W w1.heap.size g x B m n s s by rw [hW]; exact S.out.alloc _)
      by_cases h40 : k < 40
      · have hd : decide (40 ≤ (k : Int)) = false := by simp; omega
        have hm2 : m ≤ 2400 := by omega
        have hn2 : n ≤ 2400 := by omega
        have hT2 : s.T.length ≤ 2400 := by omega
        have HM := Lib.hid (And.intro hm (And.intro hn hT))
        clear hm hn hT
        obtain ⟨PP, hPP⟩ : ∃ P, P = pp.take 60 := ⟨_, rfl⟩
        have hPP6 := cut_len hPP
        have hPPb := Lib.hid (show Bytes PP by rw [hPP]; exact bytes_take x3 60)
        have CP := Lib.hid (fun W h => cut60 pA pc pp PP hPP W h x2.le x2.max)
        have RP := Lib.hid x2.rd
        clear hPP x2 x3
        obtain ⟨gx, hgx⟩ : ∃ gx, gx = wr.heap.size := ⟨_, rfl⟩
        have KW : Blk W gx 31 #[.int .u8 d, .int .u64 o, .slice pA pp.length pc, .bool pe, .int .i64 pn] := by rw [hW, hgx]; exact Blk.new wr _ _
        clear S
        go_wp2_with fail
        rw [← hW, ← hgx]
        clear hW hgx q0 q1 q2 q3 q4
        refine (CP.out W (RP.out.below SW.out.b)).mono ?_
        rintro e6 w6 ⟨A6, c6, rfl, o6, b6⟩
        have CY := Lib.hid (copy_any A6 c6 PP w6 (Rd.of_own o6) (by omega))
        go_wp2_with fail
        refine CY.out.mono ?_
        rintro e7 w7 ⟨A7, c7, rfl, o7, b7⟩
        have S7 := Lib.hid ((SW.out.below b6).below b7)
        have KW7 := (KW.below b6 KW.lt).below b7 (KW.below b6 KW.lt).lt
        have O6 := Lib.hid (o6.below b7)
        have O7 := Lib.hid o7
        have hz7 : w.heap.size ≤ w6.heap.size := Nat.le_trans SW.out.b.size b6.size
        have k70 := KW7.cell 0
        have k71 := KW7.cell 1
        have k73 := KW7.cell 3
        have k74 := KW7.cell 4
        simp at k70 k71 k73 k74
        have HKW := Lib.hid KW7
        have OK := Lib.hid S7.out.q.ok
        clear CY KW KW7 o6 o7 b6 b7 SW RP CP
        obtain ⟨D7, hD7⟩ : ∃ D7, D7 = d % 7 := ⟨_, rfl⟩
        have e7 : d % 7 = D7 := hD7.symm
        have ways : ((D7 == 4) = true) ∨ ((D7 == 4) = false ∧ (D7 == 5) = true) ∨ ((D7 == 4) = false ∧ (D7 == 5) = false ∧ (D7 == 6) = true) ∨ ((D7 == 4) = false ∧ (D7 == 5) = false ∧ (D7 == 6) = false) := by
          cases h4 : (D7 == 4) <;> cases h5 : (D7 == 5) <;> cases h6 : (D7 == 6) <;> simp
        clear hD7
        go_upto_block 2 with (fail)
        rw [e7]
        clear e7
        go_cut [11] (fun ok wx => ok = .bool true ∧ Hid (∃ (m' n' : Nat) (s9 : QS), m' ≤ m + PP.length ∧ n' ≤ n + PP.length ∧ s9.T.length ≤ s.T.length + PP.length ∧ St w wx w1.heap.size g x B m' n' s9 s9))
        case first =>
          rcases ways with g4 | ⟨g4, g5⟩ | ⟨g4, g5, g6⟩ | ⟨g4, g5, g6⟩
          · as_aux_lemma =>
              have S7d := Lib.hid (S7.out.drewN 1)
              have KW7d := Lib.hid (show Blk w7.drew gx 31 #[.int .u8 d, .int .u64 o, .slice pA pp.length pc, .bool pe, .int .i64 pn] from HKW.out.drew)
              have kd1 := KW7d.out.cell 1
              simp at kd1
              obtain ⟨cd, hcd⟩ : ∃ cd, cd = putCode s o 0 true := ⟨_, rfl⟩
              have C1 := Lib.hid (S7d.out.Close_ HT.out hgl (by omega) x1 (by omega) hcd)
              have C2 := Lib.hid (fun W' s' (h : St w W' w1.heap.size g x B m n s' s) h1 h2 => h.rClose_ OK.out (by omega) x1 h1 h2 hcd)
              have HCD := Lib.hid hcd
              clear hcd
              go_wp2_with fail
              go_region_with (first
                | (go_at_call 13; refine C1.out.mono ?_; rintro e8 w8 ⟨rfl, ⟨s8, h81, h82, st8⟩, k8, b8⟩; have KW8 := blk_keep S7d.out k8 KW7d.out (by decide) (by decide); have c81 := KW8.cell 1; simp at c81; have P8 := Lib.hid (C2.out w8 s8 st8 h81 h82); have L8 := Lib.hid (putT_any h81 h82); clear st8 h81 h82 k8 b8 KW8)
                | (go_at_call 14; (with_reducible refine P8.out.mono ?_); rintro e9 w9 ⟨rfl, st9, k9⟩; have S9 := Lib.hid st9; clear st9 k9))
              all_goals (
                go_wp2_with fail
                go_meet
                exact ⟨rfl, Lib.hid ⟨m, n, s8, by omega, by omega, by have h := L8.out; simp only [List.length_nil, Nat.add_zero] at h; omega, S9.out⟩⟩)
          · as_aux_lemma =>
              obtain ⟨N, hN⟩ : ∃ N, N = takeN s pn := ⟨_, rfl⟩
              obtain ⟨DB, hDB⟩ : ∃ DB, DB = (s.en && decide (s.rd + (N : Int) = s.hi)) := ⟨_, rfl⟩
              have C1 := Lib.hid (S7.out.Take_ x4 (by omega) hN hDB)
              have C2 := Lib.hid (fun W' s' (h : St w W' w1.heap.size g x B m n s' s) => h.rTake_ OK.out x4 (by omega) hN hDB)
              have C3 := Lib.hid (fun A B c d W h1 h2 => same_n A B c d (tk s.f s.rd N) N (tk_len _ _ _) W h1 h2 (bytes_tk OK.out _ _))
              have HNN := Lib.hid (And.intro hN hDB)
              clear hN hDB
              go_wp2_with fail
              refine C1.out.mono ?_
              rintro e8 w8 ⟨⟨A8, c8, rfl, o8⟩, st8, kk8⟩
              have KW8 := blk_keep S7.out kk8 HKW.out (by decide) (by decide)
              have k84 := KW8.cell 4
              simp at k84
              have S8 := Lib.hid st8
              have O8 := Lib.hid o8
              clear st8 kk8 KW8 o8 C1
              go_wp2_with fail
              refine (C2.out _ _ S8.out).mono ?_
              rintro e9 w9 ⟨⟨A9, c9, rfl, o9⟩, st9, kk9⟩
              have O89 := Lib.hid (Rd.of_own (own_two S8.out kk9 O8.out))
              have O99 := Lib.hid (Rd.of_own o9)
              have hTT : (qTake s N).T.length = s.T.length := rfl
              obtain ⟨s9, hs9⟩ : ∃ s9, s9 = qTake s N := ⟨_, rfl⟩
              rw [← hs9] at st9 hTT
              have S9 := Lib.hid st9
              clear st9 kk9 hs9 C2 S8 O8 o9
              go_wp2_with fail
              refine (C3.out _ _ _ _ _ O89.out O99.out).mono ?_
              rintro e9 w10 ⟨rfl, rfl⟩
              clear C3 O89 O99
              go_wp2_with fail
              go_meet
              exact ⟨rfl, Lib.hid ⟨m, n, s9, by omega, by omega, by omega, S9.out⟩⟩
          · as_aux_lemma =>
              obtain ⟨N, hN⟩ : ∃ N, N = takeN s pn := ⟨_, rfl⟩
              obtain ⟨DB, hDB⟩ : ∃ DB, DB = (s.en && decide (s.rd + (N : Int) = s.hi)) := ⟨_, rfl⟩
              have C1 := Lib.hid (S7.out.Take_ x4 (by omega) hN hDB)
              have C2 := Lib.hid (fun W' s' (h : St w W' w1.heap.size g x B m n s' s) => h.rTake_ OK.out x4 (by omega) hN hDB)
              have C3 := Lib.hid (fun A B c d W h1 h2 => same_n A B c d (tk s.f s.rd N) N (tk_len _ _ _) W h1 h2 (bytes_tk OK.out _ _))
              have HNN := Lib.hid (And.intro hN hDB)
              clear hN hDB
              go_wp2_with fail
              refine C1.out.mono ?_
              rintro e8 w8 ⟨⟨A8, c8, rfl, o8⟩, st8, kk8⟩
              have KW8 := blk_keep S7.out kk8 HKW.out (by decide) (by decide)
              have k84 := KW8.cell 4
              simp at k84
              have S8 := Lib.hid st8
              have O8 := Lib.hid o8
              clear st8 kk8 KW8 o8 C1
              go_wp2_with fail
              refine (C2.out _ _ S8.out).mono ?_
              rintro e9 w9 ⟨⟨A9, c9, rfl, o9⟩, st9, kk9⟩
              have O89 := Lib.hid (Rd.of_own (own_two S8.out kk9 O8.out))
              have O99 := Lib.hid (Rd.of_own o9)
              have hTT : (qTake s N).T.length = s.T.length := rfl
              obtain ⟨s9, hs9⟩ : ∃ s9, s9 = qTake s N := ⟨_, rfl⟩
              rw [← hs9] at st9 hTT
              have S9 := Lib.hid st9
              clear st9 kk9 hs9 C2 S8 O8 o9
              go_wp2_with fail
              refine (C3.out _ _ _ _ _ O89.out O99.out).mono ?_
              rintro e9 w10 ⟨rfl, rfl⟩
              clear C3 O89 O99
              go_wp2_with fail
              go_meet
              exact ⟨rfl, Lib.hid ⟨m, n, s9, by omega, by omega, by omega, S9.out⟩⟩
          · as_aux_lemma =>
              skip
              have S7d := Lib.hid (S7.out.drewN 1)
              have KW7d := Lib.hid (show Blk w7.drew gx 31 #[.int .u8 d, .int .u64 o, .slice pA pp.length pc, .bool pe, .int .i64 pn] from HKW.out.drew)
              have O7d := Lib.hid (show Own (w7.drewN 1) w6.heap.size A7 c7 PP from O7.out)
              have O6d := Lib.hid (show Own (w7.drewN 1) W.heap.size A6 c6 PP from O6.out)
              have kd1 := KW7d.out.cell 1
              have kd3 := KW7d.out.cell 3
              simp at kd1 kd3
              obtain ⟨cd, hcd⟩ : ∃ cd, cd = putCode s o PP.length pe := ⟨_, rfl⟩
              have C1 := Lib.hid (S7d.out.Put_ HT.out hgl O7d.out hPPb.out (by omega) x1 (by omega) (by omega) pe hcd)
              have C2 := Lib.hid (fun W' s' (h : St w W' w1.heap.size g x B (m + PP.length) n s' s) (o6 : Own W' W.heap.size A6 c6 PP) h1 h2 => h.rPut_ OK.out o6 hPPb.out (by omega) x1 (by omega) pe h1 h2 hcd)
              have SY := Lib.hid (fun W h1 h2 => same_yes A7 A6 c7 c6 PP PP W h1 h2 hPPb.out rfl)
              have HCD := Lib.hid hcd
              clear hcd
              go_upto_region 14 with (fail)
              go_cut [11] (fun ok wx => ok = .bool true ∧ Hid (∃ (s9 : QS), s9.T.length ≤ s.T.length + PP.length ∧ Own wx w6.heap.size A7 c7 PP ∧ St w wx w1.heap.size g x B (m + PP.length) (n + PP.length) s9 s9))
              case first =>
                have X0 : w7.drew.cell? ⟨gx, 1, none⟩ = some (.int .u64 o) ∧ w7.drew.cell? ⟨gx, 3, none⟩ = some (.bool pe) := ⟨kd1, kd3⟩
                go_region_held3 (fun w' => w'.cell? ⟨gx, 1, none⟩ = some (.int .u64 o) ∧ w'.cell? ⟨gx, 3, none⟩ = some (.bool pe)) (first
                  | exact X9
                  | exact X8
                  | exact X0
                  | (go_keep; done)) (first
                  | (go_at_call 18
                     refine C1.out.mono ?_
                     rintro e8 w8 ⟨rfl, ⟨s8, h81, h82, st8⟩, k8, b8⟩
                     have KW8 := blk_keep S7d.out k8 KW7d.out (by decide) (by decide)
                     have c81 := KW8.cell 1
                     have c83 := KW8.cell 3
                     simp at c81 c83
                     have X8 : w8.cell? ⟨gx, 1, none⟩ = some (.int .u64 o) ∧ w8.cell? ⟨gx, 3, none⟩ = some (.bool pe) := ⟨c81, c83⟩
                     have K88 := Lib.hid KW8
                     have O78 := Lib.hid (own_keepT O7d.out S7d.out.q k8)
                     have O68 := own_keepT O6d.out S7d.out.q k8
                     have HO68 := Lib.hid O68
                     have S8 := Lib.hid st8
                     have P8 := Lib.hid (C2.out w8 s8 st8 O68 h81 h82)
                     have L8 := Lib.hid (putT_any h81 h82)
                     clear st8 h81 h82 k8 b8 KW8 O68 c81 c83)
                  | (go_at_call 14
                     (with_reducible refine P8.out.mono ?_)
                     rintro e9 w9 ⟨rfl, st9, k9⟩
                     have KW9 := blk_two S8.out k9 K88.out (by decide)
                     have c91 := KW9.cell 1
                     have c93 := KW9.cell 3
                     simp at c91 c93
                     have X9 : w9.cell? ⟨gx, 1, none⟩ = some (.int .u64 o) ∧ w9.cell? ⟨gx, 3, none⟩ = some (.bool pe) := ⟨c91, c93⟩
                     have O79 := Lib.hid (own_two S8.out k9 O78.out)
                     have SY9 := Lib.hid (SY.out w9 (Rd.of_own O79.out) (Rd.of_own (own_two S8.out k9 HO68.out)))
                     have S9 := Lib.hid st9
                     clear st9 k9 P8 KW9 c91 c93)
                  | (go_at_call 17
                     (with_reducible refine SY9.out.mono ?_)
                     rintro e9 w10 ⟨rfl, rfl⟩))
                all_goals (
                  go_wp2_with fail
                  go_meet
                  exact ⟨rfl, Lib.hid ⟨s8, L8.out, O79.out, S9.out⟩⟩)
              case rest =>
                obtain ⟨rfl, hc9⟩ := hcut
                obtain ⟨s9, L8, o79, st9⟩ := hc9.out
                have O79 := Lib.hid o79
                have S9 := Lib.hid st9
                have HL8 := Lib.hid L8
                clear hc9 o79 st9 C1 C2 S7d KW7d O7d O6d SY L8
                go_wp2_with fail
                go_loopw [63] (fun j wq => ∃ jj : Nat, jj ≤ PP.length ∧ j = .int .i64 jj ∧ Hid (Row8 wq w6.heap.size A7 c7 PP.length) ∧ Hid (St w wq w1.heap.size g x B (m + PP.length) (n + PP.length) s9 s9)) (fun j _ => PP.length - (intOf j).toNat)
                case atStart => exact ⟨0, by omega, rfl, Lib.hid ⟨PP, rfl, O79.out⟩, S9⟩
                case round =>
                  obtain ⟨jj, hjj, rfl, R8, B8⟩ := hrel
                  by_cases hjl : jj < PP.length
                  · obtain ⟨g8, x8, cur8, rfl, hg8, c8, f8, k8⟩ := R8.out.cell hjl
                    have K8 := Lib.hid k8
                    clear k8
                    go_wp2_with fail
                    go_roundw
                    case rel => exact ⟨jj + 1, by omega, by go_num, Lib.hid (R8.out.set K8.out _), Lib.hid (B8.out.byte K8.out (Nat.le_trans hz7 hg8) _)⟩
                    case measure => simp [intOf]; omega
                  · obtain rfl : jj = PP.length := by omega
                    go_wp2_with fail
                    go_meet
                    exact ⟨rfl, Lib.hid ⟨_, _, s9, Nat.le_refl _, Nat.le_refl _, HL8.out, B8.out⟩⟩
        case rest =>
         as_aux_lemma =>
          obtain ⟨rfl, hc9⟩ := hcut
          obtain ⟨m9, n9, s9, hm9, hn9, hT9', st9⟩ := hc9.out
          have S9 := Lib.hid st9
          have HM9 := Lib.hid (And.intro hm9 (And.intro hn9 hT9'))
          clear ways hc9 st9 hm9 hn9 hT9' S7 O6 O7 HKW k70 k71 k73 k74
          have hT9 : s9.T.length ≤ 60 * min (k + 1) 40 := by have := HM.out; have := HM9.out; omega
          have hT9b : s9.T.length ≤ 1000000 := by omega
          obtain ⟨Y, hY⟩ : ∃ Y, Y = s9.wh - s9.rd := ⟨_, rfl⟩
          obtain ⟨HH, hHH⟩ : ∃ HH, HH = (s9.T.length : Int) - s9.rd := ⟨_, rfl⟩
          obtain ⟨DN, hDN⟩ : ∃ DN, DN = (s9.en && decide (s9.rd = s9.hi)) := ⟨_, rfl⟩
          have TC0 := Lib.hid (fun W (h : St w W w1.heap.size g x B m9 n9 s9 s9) => h.Ready hY)
          have TC1 := Lib.hid (fun W (h : St w W w1.heap.size g x B m9 n9 s9 s9) => h.rReady hT9b hY)
          have TC2 := Lib.hid (fun W (h : St w W w1.heap.size g x B m9 n9 s9 s9) => h.Held hHH)
          have TC3 := Lib.hid (fun W (h : St w W w1.heap.size g x B m9 n9 s9 s9) => h.rHeld hT9b hHH)
          have TC4 := Lib.hid (fun W (h : St w W w1.heap.size g x B m9 n9 s9 s9) => h.Done hDN)
          have TC5 := Lib.hid (fun W (h : St w W w1.heap.size g x B m9 n9 s9 s9) => h.rDone hDN)
          clear hY hHH hDN
          go_wp2_with fail
          refine (TC0.out _ S9.out).mono ?_
          rintro r9 v0 ⟨rfl, sv⟩
          have V0 := Lib.hid sv
          clear sv TC0
          go_wp2_with fail
          refine (TC1.out _ V0.out).mono ?_
          rintro r9 v1 ⟨rfl, sv⟩
          have V1 := Lib.hid sv
          clear sv TC1
          go_wp2_with fail
          refine (TC2.out _ V1.out).mono ?_
          rintro r9 v2 ⟨rfl, sv⟩
          have V2 := Lib.hid sv
          clear sv TC2
          go_wp2_with fail
          refine (TC3.out _ V2.out).mono ?_
          rintro r9 v3 ⟨rfl, sv⟩
          have V3 := Lib.hid sv
          clear sv TC3
          go_wp2_with fail
          refine (TC4.out _ V3.out).mono ?_
          rintro r9 v4 ⟨rfl, sv⟩
          have V4 := Lib.hid sv
          clear sv TC4
          go_wp2_with fail
          refine (TC5.out _ V4.out).mono ?_
          rintro r9 v5 ⟨rfl, sv⟩
          have V5 := Lib.hid sv
          clear sv TC5
          have EE := End_any w1.heap.size g _ s9 v5 V5.out.q
          have EH := Lib.hid (fun j => High_any w1.heap.size g _ s9 (v5.drewN j) (V5.out.q.drewN j))
          have ER := Lib.hid (fun j => Read_any w1.heap.size g _ s9 (v5.drewN j) (V5.out.q.drewN j))
          have y1 := V5.out.r.q.cell 1
          have y2 := V5.out.r.q.cell 2
          have y3 := V5.out.r.q.cell 3
          have y4 := V5.out.r.q.cell 4
          simp [XV] at y1 y2 y3 y4
          obtain ⟨R, hR⟩ : ∃ R, R = s9.rd := ⟨_, rfl⟩
          obtain ⟨HI, hHI⟩ : ∃ HI, HI = s9.hi := ⟨_, rfl⟩
          rw [← hR] at ER y1
          rw [← hHI] at EE EH y2 y3
          clear hR hHI
          rcases hen : s9.en with _ | _
          · rw [hen] at EE y3 y4
            simp only [Bool.false_eq_true, if_false, if_true] at EE y3
            have HEE := Lib.hid EE
            clear EE hen
            go_wp2_with fail
            refine HEE.out.mono ?_
            rintro r9 v9 ⟨rfl, rfl⟩
            go_wp2_with fail
            go_quiet (first | (go_at_call 26; exact Calls.quiet_of (Calls.sq (EH.out _))) | (go_at_call 27; exact Calls.quiet_of (Calls.sq (ER.out _))))
            go_wp2_with fail
            go_roundw
            case rel => exact ⟨k + 1, m9, n9, s9, by omega, by go_num, by have := HM.out; have := HM9.out; omega, by have := HM.out; have := HM9.out; omega, hT9, Lib.hid (by repeat (first | exact V5.out | with_reducible refine St.drewN ?_ _))⟩
            case measure => simp [intOf]; omega
          · rw [hen] at EE y3 y4
            simp only [Bool.false_eq_true, if_false, if_true] at EE y3
            have HEE := Lib.hid EE
            clear EE hen
            go_wp2_with fail
            refine HEE.out.mono ?_
            rintro r9 v9 ⟨rfl, rfl⟩
            go_wp2_with fail
            go_quiet (first | (go_at_call 26; exact Calls.quiet_of (Calls.sq (EH.out _))) | (go_at_call 27; exact Calls.quiet_of (Calls.sq (ER.out _))))
            go_wp2_with fail
            go_roundw
            case rel => exact ⟨k + 1, m9, n9, s9, by omega, by go_num, by have := HM.out; have := HM9.out; omega, by have := HM.out; have := HM9.out; omega, hT9, Lib.hid (by repeat (first | exact V5.out | with_reducible refine St.drewN ?_ _))⟩
            case measure => simp [intOf]; omega
      · have hd : decide (40 ≤ (k : Int)) = true := by simp; omega
        clear x2 x3 S
        go_wp2_with fail
        go_ret
        rw [← hW]
        exact ⟨rfl, SW.out.b⟩
    · obtain rfl : k = l.length := by omega
      go_wp2_with fail
      go_ret
      exact ⟨rfl, S.out.b⟩
end Go.Proofs.YtdafeokjedmnkaaDoor
