import Derived.Test.YtajfcdhnmchabaaDoorVintM
namespace Go.Proofs.YtajfcdhnmchabaaDoor
open Go.RowKit
set_option linter.unusedVariables false

def sizes4 : List Int := [1, 2, 4, 8]
theorem sizes4_is (k : Nat) (hk : k < 4) : ∃ s kk b t, sizes4[k]? = some s ∧ s = (kk : Nat) ∧ IsSize s kk b t := by
  rcases (show k = 0 ∨ k = 1 ∨ k = 2 ∨ k = 3 by omega) with rfl | rfl | rfl | rfl
  · exact ⟨1, 1, _, 0, rfl, rfl, .inl ⟨rfl, rfl, rfl, rfl⟩⟩
  · exact ⟨2, 2, _, 1, rfl, rfl, .inr (.inl ⟨rfl, rfl, rfl, rfl⟩)⟩
  · exact ⟨4, 4, _, 2, rfl, rfl, .inr (.inr (.inl ⟨rfl, rfl, rfl, rfl⟩))⟩
  · exact ⟨8, 8, _, 3, rfl, rfl, .inr (.inr (.inr ⟨rfl, rfl, rfl, rfl⟩))⟩
/-- What the law asks of an encoding. -/
theorem forms_fact {n s b t : Int} {k : Nat} (hs : IsSize s k b t) (h0 : 0 ≤ n) (hE : wiE n s = 0) (bh : List Int) :
    wiB n s = wenc n k ∧ rdN (wiB n s ++ bh) = n ∧ tkR (wiB n s ++ bh) = bh ∧ tkE (wiB n s ++ bh) = 0 ∧ vleast (wiB n s) = (s == vsize n) ∧ (wiB n s).length ≤ 8 := by
  have hsk : s = k := by rcases hs with h | h | h | h <;> obtain ⟨rfl, rfl, _⟩ := h <;> rfl
  subst hsk
  have hk : 1 ≤ k ∧ k ≤ 8 := by unfold IsSize at hs; omega
  have hn : n < b := by
    unfold wiE at hE
    split at hE
    · cases hE
    · split at hE
      · rename_i h
        unfold vbnd at h
        unfold IsSize at hs
        (repeat' split at h) <;> omega
      · cases hE
  have e : wiB n k = wenc n k := by unfold wiB; rw [if_pos hE]; rfl
  have q1 := rdS_wenc hs h0 hn bh
  have q2 := rdN_wenc hs h0 hn bh
  have q3 := drop_wenc (n := n) hs bh
  have q4 := rdS_wenc hs h0 hn []
  have q5 := rdN_wenc hs h0 hn []
  rw [List.append_nil] at q4 q5
  rw [e]
  refine ⟨rfl, q2, ?_, ?_, ?_, by rw [wenc_length n k hk.1]; exact hk.2⟩
  · unfold tkR; rw [if_neg (by omega), q1, q3]
  · unfold tkE; rw [if_neg (by omega)]
  · unfold vleast
    rw [q4, q5, show decide (0 < k) = true by simp; omega, Bool.true_and]
    rfl

set_option maxHeartbeats 3200000 in
theorem forms_walk (n size : Int) (A : Option Addr) (c : Nat) (p : List Int) (w : World) (ht : Tab w) (wn : (Lit.int .u64 n).wf = true) (ws : (Lit.int .i64 size).wf = true)
    (hr : Rd w A p) (hb : Bytes p) (hc : p.length ≤ c) (hm : c ≤ 9223372036854775807) (hn : A = none → c = 0) :
    Calls Tryd.prog 3 #[.int .u64 n, .int .i64 size, .slice A p.length c] w fun e w' => e = .returned (.bool true) ∧ Below w.heap.size w w' := by
  have h0 := (wf_u64 wn).1
  clear wn ws
  obtain ⟨l, hl⟩ : ∃ l, l = p.take (40 : Int).toNat := ⟨_, rfl⟩
  have hll : l.length ≤ 40 := by rw [hl]; simp; omega
  have hlb : Bytes l := by rw [hl]; exact hb.take _
  have HL := Lib.hid hl
  clear hl
  go_enter Tryd.func3, Tryd.ntmps3
  go_wp2_with fail
  refine (awake_any _ ht).mono ?_
  rintro e w1 ⟨rfl, b1⟩
  have hr1 := hr.below b1
  have ht := ht.below b1
  go_wp2_with fail
  refine (cut_any A c p 40 _ hr1 (by omega) hc (by decide) (by decide)).mono ?_
  rintro e w2 ⟨A2, c2, rfl, hown2, b2⟩
  rw [← HL.out] at hown2 ⊢
  have k2 := b1.trans (b2.mono b1.size)
  have ht := ht.below b2
  have s2 := Sl.of_own hown2
  clear hr hr1 hown2 b1 b2
  go_wp2_with fail
  refine (num_u n _ ht h0).mono ?_
  rintro e w3 ⟨A3, c3, rfl, o3, b3⟩
  have k3 := k2.trans (b3.mono k2.size)
  have s2 := s2.below b3
  have ht := ht.below b3
  have s3 := Sl.of_own o3
  clear k2 b3 o3
  go_wp2_with fail
  refine (refNum_u n _ h0).mono ?_
  rintro e w4 ⟨A4, c4, rfl, o4, b4⟩
  have k4 := k3.trans (b4.mono k3.size)
  have s2 := s2.below b4
  have s3 := s3.below b4
  have ht := ht.below b4
  have s4 := Sl.of_own o4
  clear k3 b4 o4
  go_wp2_with fail
  refine (wide_u n size _ ht h0).mono ?_
  rintro e w5 ⟨A5, c5, rfl, o5, b5⟩
  have k5 := k4.trans (b5.mono k4.size)
  have s2 := s2.below b5
  have s3 := s3.below b5
  have s4 := s4.below b5
  have ht := ht.below b5
  have s5 := Sl.of_own o5
  clear k4 b5 o5
  go_wp2_with fail
  refine (refWide_u n size _ h0).mono ?_
  rintro e w6 ⟨A6, c6, rfl, o6, b6⟩
  have k6 := k5.trans (b6.mono k5.size)
  have s2 := s2.below b6
  have s3 := s3.below b6
  have s4 := s4.below b6
  have s5 := s5.below b6
  have ht := ht.below b6
  have s6 := Sl.of_own o6
  clear k5 b6 o6
  go_wp2_with fail
  refine (same_yes A3 A4 c3 c4 _ _ _ s3.rd s4.rd (nuB_bytes n h0) rfl).mono ?_
  rintro e w9 ⟨rfl, rfl⟩
  go_wp2_with fail
  refine (same_yes A5 A6 c5 c6 _ _ _ s5.rd s6.rd (wiB_bytes n size h0) rfl).mono ?_
  rintro e w9 ⟨rfl, rfl⟩
  go_wp2_with fail
  refine (size_any n _ h0).mono ?_
  rintro e w9 ⟨rfl, rfl⟩
  go_wp2_with fail
  refine (refSize_any n _ h0).mono ?_
  rintro e w9 ⟨rfl, rfl⟩
  clear s3 s4 s5 s6
  have hblk : Blk (w6.alloc (.cells #[.int .i64 1, .int .i64 2, .int .i64 4, .int .i64 8] 3)) w6.heap.size 3 #[.int .i64 1, .int .i64 2, .int .i64 4, .int .i64 8] := Blk.new _ _ _
  have s2 : Sl (w6.alloc (.cells #[.int .i64 1, .int .i64 2, .int .i64 4, .int .i64 8] 3)) A2 c2 l := s2.below ((Below.refl _ _).alloc (Nat.le_refl _) _)
  have ht := ht.below ((Below.refl w6.heap.size w6).alloc (Nat.le_refl _) (.cells #[.int .i64 1, .int .i64 2, .int .i64 4, .int .i64 8] 3))
  have k7 : Below w.heap.size w (w6.alloc (.cells #[.int .i64 1, .int .i64 2, .int .i64 4, .int .i64 8] 3)) := k6.alloc k6.size _
  have HB := Lib.hid hblk
  have HS := Lib.hid s2
  have HT := Lib.hid ht
  have HK := Lib.hid k7
  clear hblk s2 ht k7 k6
  go_wp2_with fail
  go_loopw [77] (fun i wr => ∃ k : Nat, k ≤ 4 ∧ i = .int .i64 k ∧ Below (w6.alloc (.cells #[.int .i64 1, .int .i64 2, .int .i64 4, .int .i64 8] 3)).heap.size (w6.alloc (.cells #[.int .i64 1, .int .i64 2, .int .i64 4, .int .i64 8] 3)) wr) (fun i _ => 4 - (intOf i).toNat)
  case atStart => exact ⟨0, by omega, rfl, Below.refl _ _⟩
  case round =>
    obtain ⟨k, hk, rfl, bel⟩ := hrel
    have s2 := HS.out.below bel
    have ht := HT.out.below bel
    have hblk := HB.out.below bel HB.out.lt
    have kw := HK.out.trans (bel.mono HK.out.size)
    by_cases hk4 : k < 4
    · obtain ⟨s, kk, b, t, hget, hsk, hsz⟩ := sizes4_is k hk4
      have hcell : wr.cell? ⟨w6.heap.size, k, none⟩ = some (.int .i64 s) := by
        rw [hblk.cell]
        have : (#[Value.int .i64 1, .int .i64 2, .int .i64 4, .int .i64 8])[k]? = (sizes4[k]?).map (Value.int .i64) := by
          rcases (show k = 0 ∨ k = 1 ∨ k = 2 ∨ k = 3 by omega) with rfl | rfl | rfl | rfl <;> rfl
        rw [this, hget]; rfl
      have hsz' := hsz
      clear hget hsk hblk
      by_cases hE : wiE n s = 0
      · obtain ⟨f1, f2, f3, f4, f5, f6⟩ := forms_fact hsz h0 hE l
        have fb := wiB_bytes n s h0
        have F1 := Lib.hid f1
        have F2 := Lib.hid f2
        have F3 := Lib.hid f3
        have F4 := Lib.hid f4
        have F5 := Lib.hid f5
        have FE := Lib.hid hE
        clear f1 f2 f3 f4 f5 hE hsz hsz'
        go_wp2_with fail
        refine (wide_u n s _ ht h0).mono ?_
        rintro e v1 ⟨B1, d1, rfl, o1, c1⟩
        rw [FE.out]
        have e1 := Sl.of_own o1
        have s2 := s2.below c1
        have kv := kw.trans (c1.mono kw.size)
        have bv := bel.trans (c1.mono bel.size)
        clear kw o1
        obtain ⟨q, hq⟩ : ∃ q, q = wiB n s := ⟨_, rfl⟩
        rw [← hq] at e1 fb f6 ⊢
        have HQ := Lib.hid hq
        clear hq
        go_wp2_with fail
        refine (copy_any B1 d1 q _ e1.rd (by omega)).mono ?_
        rintro e v2 ⟨B2, d2, rfl, o2, c2'⟩
        have s22 := s2.below c2'
        have bv2 := bv.trans (c2'.mono bv.size)
        have kv2 := kv.trans (c2'.mono kv.size)
        have z2 := c2'.size
        go_wp2_with (at_builtin; go_must (refine wpList_app rfl (.tmp 91) (.tmp 92) rfl v1.heap.size (l := q) (news := l) rfl rfl o2 s22.rd (by omega) (by omega) ?_); intro B3 d3 v3 o3 g3 c3'; have z3 := o3.cap)
        have b13 := c2'.trans c3'
        have s2 := s2.below b13
        have e1 := e1.below b13
        have bv3 := bv.trans (b13.mono bv.size)
        have kv3 := kv.trans (b13.mono kv.size)
        have e3 := Sl.of_own o3
        clear bv kv bv2 kv2 s22 z2 c2' c3' g3 o3 b13 z3 o2
        obtain ⟨r, hr⟩ : ∃ r, r = q ++ l := ⟨_, rfl⟩
        have hrl : q.length + l.length = r.length := by rw [hr]; simp
        have hr48 : r.length ≤ 48 := by omega
        have rb : Bytes r := by rw [hr]; exact fb.append hlb
        have f2 : rdN r = n := by rw [hr, HQ.out]; exact F2.out
        have f3 : tkR r = l := by rw [hr, HQ.out]; exact F3.out
        have f4 : tkE r = 0 := by rw [hr, HQ.out]; exact F4.out
        have f5 : vleast q = (s == vsize n) := by rw [HQ.out]; exact F5.out
        rw [← hr] at e3
        rw [hrl]
        clear hr hrl
        have F2 := Lib.hid f2
        have F3 := Lib.hid f3
        have F4 := Lib.hid f4
        have F5 := Lib.hid f5
        clear f2 f3 f4 f5
        refine (take_u B3 d3 r _ e3 rb (by omega)).mono ?_
        rintro e v4 ⟨B4, d4, rfl, e4, c4'⟩
        rw [F2.out, F4.out, F3.out]
        rw [F3.out] at e4
        have s2 := s2.below c4'
        have e1 := e1.below c4'
        have bv4 := bv3.trans (c4'.mono bv3.size)
        clear bv3 c4' kv3
        go_wp2_with fail
        refine (same_yes B4 A2 d4 c2 _ _ _ e4.rd s2.rd hlb rfl).mono ?_
        rintro e w9 ⟨rfl, rfl⟩
        go_wp2_with fail
        refine (least_any B1 d1 q _ e1.rd fb e1.le (by omega)).mono ?_
        rintro e w9 ⟨rfl, rfl⟩
        rw [F5.out]
        go_wp2_with fail
        refine (refSize_any n _ h0).mono ?_
        rintro e w9 ⟨rfl, rfl⟩
        go_wp2
        go_roundw
        case rel => exact ⟨k + 1, by omega, by go_num, bv4⟩
        case measure => simp [intOf]; omega
      · have hz : (wiE n s != 0) = true := by simp [hE]
        have hz' : (wiE n s == 0) = false := by simp [hE]
        clear hE hsz hsz'
        go_wp2_with fail
        refine (wide_u n s _ ht h0).mono ?_
        rintro e v1 ⟨B1, d1, rfl, o1, c1⟩
        have bv := bel.trans (c1.mono bel.size)
        clear o1
        go_wp2
        go_roundw
        case rel => exact ⟨k + 1, by omega, by go_num, bv⟩
        case measure => simp [intOf]; omega
    · obtain rfl : k = 4 := by omega
      go_wp2
      go_ret
      exact ⟨rfl, kw⟩
end Go.Proofs.YtajfcdhnmchabaaDoor
