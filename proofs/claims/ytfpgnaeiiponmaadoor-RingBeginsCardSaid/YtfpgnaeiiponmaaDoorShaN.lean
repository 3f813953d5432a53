import Derived.Test.YtfpgnaeiiponmaaDoorShaM
namespace Go.Proofs.YtfpgnaeiiponmaaDoor
open Go.RowKit
set_option linter.unusedVariables false

def lenE (n : Int) : Int := if n < 0 then 1 else if 8160 < n then 3 else 0
theorem lengthError_any (n : Int) (w : World) : Calls Tryd.prog 32 #[.int .i64 n] w fun r w' => r = .returned (.int .i64 (lenE n)) ∧ w = w' := by
  unfold lenE
  by_cases h1 : n < 0
  · rw [if_pos h1]
    go_enter Tryd.func32, Tryd.ntmps32
    go_wp2
    go_ret
    exact ⟨rfl, rfl⟩
  · rw [if_neg h1]
    by_cases h2 : 8160 < n
    · rw [if_pos h2]
      go_enter Tryd.func32, Tryd.ntmps32
      go_wp2
      go_ret
      exact ⟨rfl, rfl⟩
    · rw [if_neg h2]
      go_enter Tryd.func32, Tryd.ntmps32
      go_wp2
      go_ret
      exact ⟨rfl, rfl⟩
theorem flat_three (A B C : Option Addr) (c d e : Nat) (l m n : List Int) : flat [(A, c, l), (B, d, m), (C, e, n)] = l ++ m ++ n := by simp [flat]
theorem Own.alloc {w : World} {base c : Nat} {A : Option Addr} {l : List Int} (h : Own w base A c l) (o : Obj) : Own (w.alloc o) base A c l := h.below ((Below.refl _ _).alloc (Nat.le_refl _) _)
/-- A row that was made, empty, with room. -/
theorem Own.room {w : World} {g base n : Nat} (h : Blk w g 5 (IV .u8 (List.replicate n 0)).toArray) (hb : base ≤ g) (hm : n ≤ maxLen) : Own w base (some ⟨g, 0, none⟩) n [] :=
  ⟨by simp [U8], .inr ⟨g, n, _, rfl, hb, h, by simp, hm, by simp [IV], by simp [U8]⟩⟩

set_option maxHeartbeats 400000 in
theorem Expand_err (A B : Option Addr) (ln lm c d : Nat) (n e : Int) (w : World) (he : lenE n = e) (h0 : e ≠ 0) :
    Calls Tryd.prog 18 #[.slice A ln c, .slice B lm d, .int .i64 n] w fun r w' => r = .returned (.tuple #[.slice none 0 0, .int .i64 e]) ∧ w = w' := by
  have HE := Lib.hid he
  clear he
  go_enter Tryd.func18, Tryd.ntmps18
  go_wp2_with fail
  refine (lengthError_any n w).mono ?_
  rintro r w1 ⟨rfl, rfl⟩
  rw [HE.out]
  go_wp2_with fail
  go_ret2
  exact ⟨rfl, rfl⟩

set_option maxRecDepth 100000 in
set_option maxHeartbeats 1600000 in
theorem Expand_any (A : Option Addr) (c : Nat) (key : List Int) (B : Option Addr) (d : Nat) (info : List Int) (n : Nat) (w : World) (hs : Sl w A c key) (hb : Bytes key) (hi : Sl w B d info) (hib : Bytes info) (hn : n ≤ 8160) (hS : STab w) (hK : KTab w) (hkl : key.length ≤ 576460752303423488) (hil : info.length ≤ 288230376151711744) :
    Calls Tryd.prog 18 #[.slice A key.length c, .slice B info.length d, .int .i64 n] w fun r w' => ∃ A' c', r = .returned (.tuple #[.slice A' n c', .int .i64 0]) ∧ Own w' w.heap.size A' c' (hkdf key info n) ∧ Below w.heap.size w w' := by
  have he : lenE n = 0 := by unfold lenE; rw [if_neg (by omega), if_neg (by omega)]
  have hmk : ∀ W : World, (Instr.makeSlice 22 (.int .i64 0) (.int .i64 n)).run Tryd.prog W = .ok (.slice (some ⟨W.heap.size, 0, none⟩) 0 n) (W.alloc (.cells (IV .u8 (List.replicate n 0)).toArray 5)) := fun W => by
    obtain ⟨i0, hi0, hz0, hz1, hz2⟩ := info_parts info_u8
    have h := run_make (P := Tryd.prog) W 22 5 i0 (.int .u8 0) Tryd.underlying22 hi0 hz0 .i64 .i64 0 n (by omega) (by omega) (by rw [hz2]; omega) (by omega)
    rw [Int.toNat_natCast, hz1, Nat.mul_one] at h
    rw [← made_u8]
    exact h
  have HE := Lib.hid he
  have HS := Lib.hid hs
  have HI := Lib.hid hi
  have HST := Lib.hid hS
  have HK := Lib.hid hK
  have I32 := Lib.hid (show (Tryd.prog.info? 29).map (·.size) = some 32 by kernel_rfl)
  obtain ⟨Z32, hZ32⟩ : ∃ Z, Z = (IV .u8 (List.replicate 32 0)).toArray := ⟨_, rfl⟩
  have hz32 : ∀ w, (zeroValue 29).run Tryd.prog w = .ok (.agg Z32) w := by rw [hZ32]; exact zero32
  have HZS32 := Lib.hid (show Z32.size = 32 by rw [hZ32]; rfl)
  clear he hs hi hS hK hZ32
  go_enter Tryd.func18, Tryd.ntmps18
  go_wp2_with fail
  refine (lengthError_any n w).mono ?_
  rintro r w1 ⟨rfl, rfl⟩
  rw [HE.out]
  go_wp2_with fail
  have o1 : Own (w.alloc (.cells (IV .u8 (List.replicate n 0)).toArray 5)) w.heap.size (some ⟨w.heap.size, 0, none⟩) n [] := Own.room (Blk.new _ _ _) (Nat.le_refl _) (by unfold maxLen; omega)
  have b1 : Below w.heap.size w (w.alloc (.cells (IV .u8 (List.replicate n 0)).toArray 5)) := (Below.refl _ _).alloc (Nat.le_refl _) _
  generalize w.alloc (.cells (IV .u8 (List.replicate n 0)).toArray 5) = W1 at o1 b1 ⊢
  clear hmk
  go_loopw [9, 10, 11] (fun o l i wr => ∃ (k : Nat) (A1 : Option Addr) (c1 : Nat) (A2 : Option Addr) (c2 : Nat) (out : List Int), 32 * k ≤ n + 31 ∧ i = .int .u8 (((k + 1 : Nat) : Int) % 256) ∧ out = (hk key info k).take n ∧ o = .slice A1 out.length c1 ∧ Own wr w.heap.size A1 c1 out ∧ l = .slice A2 (tn key info k).length c2 ∧ Sl wr A2 c2 (tn key info k) ∧ Below w.heap.size w wr) (fun o _ _ _ => n - (match o with | .slice _ l _ => l | _ => 0))
  case atStart => exact ⟨0, _, n, none, 0, [], by omega, rfl, by simp [hk], rfl, o1, rfl, Sl.none_ _, b1⟩
  case round =>
    obtain ⟨k, A1, c1, A2, c2, out, hk1, rfl, hout, rfl, hown, rfl, hsl, bel⟩ := hrel
    have hol : out.length = min n (32 * k) := by rw [hout, List.length_take, hk_length]
    by_cases hlt : out.length < n
    · have hk32 : out.length = 32 * k := by omega
      have hk7 : k < 255 := by omega
      have HK32 := Lib.hid hk32
      obtain ⟨T0, hT0⟩ : ∃ T0, T0 = tn key info k := ⟨_, rfl⟩
      obtain ⟨T1, hT1⟩ : ∃ T1, T1 = tn key info (k + 1) := ⟨_, rfl⟩
      obtain ⟨iv, hiv⟩ : ∃ iv : Int, iv = (k : Int) + 1 := ⟨_, rfl⟩
      have hiv' : ((k + 1 : Nat) : Int) % 256 = iv := by omega
      have hiv1 : 1 ≤ iv := by omega
      have hiv2 : iv ≤ 255 := by omega
      have ht1 : T1 = hmac key (T0 ++ info ++ [iv]) := by rw [hT1, hT0, hiv]; rfl
      have ht1l : T1.length = 32 := by rw [hT1]; exact tn_length _ _ _
      have ht1b : Bytes T1 := by rw [hT1]; exact tn_bytes _ _ _
      have ht0l : T0.length ≤ 32 := by rw [hT0]; exact tn_le _ _ _
      have ht0b : Bytes T0 := by rw [hT0]; exact tn_bytes _ _ _
      rw [hiv', ← hT0]
      rw [← hT0] at hsl
      have CM : Calls Tryd.prog 13 #[.slice A key.length c, .slice (some ⟨wr.heap.size + 1, 0, none⟩) 3 3] ((wr.alloc (.cells #[.int .u8 iv] 5)).alloc (.cells #[.slice A2 T0.length c2, .slice B info.length d, .slice (some ⟨wr.heap.size, 0, none⟩) 1 1] 22)) fun r w' => r = .returned (.agg (IV .u8 T1).toArray) ∧ Below (wr.heap.size + 2) ((wr.alloc (.cells #[.int .u8 iv] 5)).alloc (.cells #[.slice A2 T0.length c2, .slice B info.length d, .slice (some ⟨wr.heap.size, 0, none⟩) 1 1] 22)) w' := by
        have b1 : Below wr.heap.size wr (wr.alloc (.cells #[.int .u8 iv] 5)) := (Below.refl _ _).alloc (Nat.le_refl _) _
        have b2 : Below w.heap.size w ((wr.alloc (.cells #[.int .u8 iv] 5)).alloc (.cells #[.slice A2 T0.length c2, .slice B info.length d, .slice (some ⟨wr.heap.size, 0, none⟩) 1 1] 22)) := (bel.alloc bel.size _).alloc (by have := bel.size; simp; omega) _
        have k1 : Blk (wr.alloc (.cells #[.int .u8 iv] 5)) wr.heap.size 5 (IV .u8 [iv]).toArray := Blk.new wr _ _
        have hn := RdBs.new (w := wr.alloc (.cells #[.int .u8 iv] 5)) (xs := [(A2, c2, T0), (B, d, info), (some ⟨wr.heap.size, 0, none⟩, 1, [iv])]) 22 (by
          intro x hx
          simp only [List.mem_cons, List.not_mem_nil, or_false] at hx
          rcases hx with rfl | rfl | rfl
          · exact ⟨hsl.below b1, ht0b⟩
          · exact ⟨HI.out.below (bel.trans (b1.mono bel.size)), hib⟩
          · exact ⟨k1.sl (n := 1) (c := 1) rfl (Nat.le_refl _) (by decide), by intro x hx; simp only [List.mem_cons, List.not_mem_nil, or_false] at hx; omega⟩)
        have hsz : (wr.alloc (.cells #[.int .u8 iv] 5)).heap.size = wr.heap.size + 1 := by simp
        rw [hsz] at hn
        have h := Mac_any A c key (some ⟨wr.heap.size + 1, 0, none⟩) 3 _ _ (HS.out.below b2) hb hn (by simp) (by decide) (HST.out.below b2) (HK.out.below b2) hkl (by rw [flat_three, List.length_append, List.length_append, List.length_singleton]; omega)
        rw [flat_three, ← ht1] at h
        exact h.mono fun r w' ⟨e, hb⟩ => ⟨e, hb.mono (by simp)⟩
      have C := Lib.hid CM
      have HOWN := Lib.hid hown
      have HSL := Lib.hid hsl
      have HT0 := Lib.hid hT0
      have HT1 := Lib.hid hT1
      have HIV := Lib.hid hiv
      have HT1L := Lib.hid ht1l
      have HT1B := Lib.hid ht1b
      have HOUT := Lib.hid hout
      have BEL := Lib.hid bel
      have A1' := Lib.hid (show (IV .u8 T1).toArray.all (·.oneCell') = true by simp [IV, Value.oneCell'])
      have S1' := Lib.hid (show (IV .u8 T1).toArray.size = 32 by simp [IV, ht1l])
      clear CM hown hsl hT0 hT1 hiv hiv' ht1 ht1l ht1b hout bel ht0b hol hk32
      have hltz : (out.length : Int) < n := by omega
      go_wp2_with fail
      refine C.out.mono ?_
      rintro e w3 ⟨rfl, b3⟩
      have O3 := Lib.hid (((HOWN.out.alloc _).alloc _).below (b3.mono (by simp)))
      have BL3 := Lib.hid (show Below wr.heap.size wr w3 from (((Below.refl _ _).alloc (Nat.le_refl _) _).alloc (by simp) _).trans (b3.mono (by omega)))
      have sz3 : wr.heap.size ≤ w3.heap.size := BL3.out.size
      clear b3 HOWN C
      have hstep : (hk key info (k + 1)).take n = out ++ T1.take (n - out.length) := by
        rw [hk, List.take_append, ← HT1.out, ← HOUT.out, HK32.out, hk_length]
      obtain ⟨m, hm⟩ : ∃ m, m = min 32 (n - out.length) := ⟨_, rfl⟩
      have htm : T1.take (n - out.length) = T1.take m := by
        rcases Nat.le_total 32 (n - out.length) with h | h
        · rw [hm, Nat.min_eq_left h, List.take_of_length_le (by rw [HT1L.out]; exact h), List.take_of_length_le (by rw [HT1L.out]; exact Nat.le_refl _)]
        · rw [hm, Nat.min_eq_right h]
      have htl : (T1.take m).length = m := by rw [List.length_take, HT1L.out, hm]; omega
      rw [htm] at hstep
      obtain ⟨NW, hNW⟩ : ∃ NW, NW = T1.take m := ⟨_, rfl⟩
      rw [← hNW] at hstep htl
      have HSTEP := Lib.hid hstep
      have HTL := Lib.hid htl
      have HM := Lib.hid hm
      have HNW := Lib.hid hNW
      have hm32 : m ≤ 32 := by omega
      have hm0 : 0 < m := by omega
      have nwl : NW.length = m := htl
      have NWL := Lib.hid (show out.length + NW.length ≤ 70368744177664 by rw [nwl]; omega)
      have NRD := Lib.hid (show ∀ w4 : World, Blk w4 w3.heap.size 29 (IV .u8 T1).toArray → Rd w4 (some ⟨w3.heap.size, 0, none⟩) NW by
        intro w4 h4
        rw [hNW]
        exact h4.rd.upto (by rw [HT1L.out]; omega))
      have FIN := Lib.hid (show ∀ (w4 w5 : World) (A5 : Option Addr) (c5 : Nat), Below w3.heap.size w3 w4 → Blk w4 w3.heap.size 29 (IV .u8 T1).toArray → Own w5 w.heap.size A5 c5 (out ++ NW) → w4.grownBy w5 (Value.slice A1 out.length c1).ownBlock → Below w.heap.size w4 w5 → Own w4 w.heap.size A1 c1 out →
          Sl w5 (some ⟨w3.heap.size, 0, none⟩) 32 T1 ∧ Below w.heap.size w w5 by
        intro w4 w5 A5 c5 h4 hb h5 g5 b5 o4
        refine ⟨?_, ((BEL.out.trans (BL3.out.mono BEL.out.size)).trans (h4.mono (by have := BEL.out.size; omega))).trans b5⟩
        have hne : some w3.heap.size ≠ (Value.slice A1 out.length c1).ownBlock := fun e => OwnV.other (t := 29) o4 (by decide) _ _ hb e.symm
        exact (hb.grown g5 hne).sl HT1L.out (Nat.le_refl _) (by decide))
      clear hstep htm htl hNW nwl
      have RELZ := Lib.hid (show ∀ (w5 : World) (A5 : Option Addr) (c5 : Nat), Own w5 w.heap.size A5 c5 (out ++ NW) → Sl w5 (some ⟨w3.heap.size, 0, none⟩) 32 T1 → Below w.heap.size w w5 →
          (∃ (k' : Nat) (A1 : Option Addr) (c1 : Nat) (A2 : Option Addr) (c2 : Nat) (out' : List Int), 32 * k' ≤ n + 31 ∧ Value.int .u8 ((iv + 1) % 256) = .int .u8 (((k' + 1 : Nat) : Int) % 256) ∧ out' = (hk key info k').take n ∧ Value.slice A5 (out.length + NW.length) c5 = .slice A1 out'.length c1 ∧ Own w5 w.heap.size A1 c1 out' ∧ Value.slice (some ⟨w3.heap.size, 0, none⟩) 32 32 = .slice A2 (tn key info k').length c2 ∧ Sl w5 A2 c2 (tn key info k') ∧ Below w.heap.size w w5) by
        intro w5 A5 c5 h1 h2 h3
        refine ⟨k + 1, A5, c5, some ⟨w3.heap.size, 0, none⟩, 32, out ++ NW, ?_, ?_, HSTEP.out.symm, by rw [List.length_append], h1, by rw [← HT1.out, HT1L.out], by rw [← HT1.out]; exact h2, h3⟩
        · have := HK32.out; omega
        · rw [HIV.out]; congr 1)
      by_cases hbig : 32 ≤ n - out.length
      · have hbz : (32 : Int) ≤ (n : Int) - out.length := by omega
        obtain rfl : m = 32 := by omega
        clear hm hm32 hm0
        go_wp2_with (first
          | (refine wpList_store_row rfl 29 (.tmp 12) (.tmp 32) rfl w3.heap.size (IV .u8 T1).toArray rfl rfl 29 Z32 (Blk.new w3 _ _) (by rw [S1'.out]; exact I32.out) (by rw [S1'.out, HZS32.out]) A1'.out ?_
             have G4 := Lib.hid (Blk.row (Blk.new w3 29 Z32) (IV .u8 T1).toArray)
             have B4 := Lib.hid (below_setRow ((Below.refl w3.heap.size w3).alloc (Nat.le_refl _) (.cells Z32 29)) (Nat.le_refl _) (IV .u8 T1).toArray)
             generalize (w3.alloc (.cells Z32 29)).setRow w3.heap.size (IV .u8 T1).toArray = w4 at G4 B4 ⊢)
          | (refine wpList_app rfl (.tmp 34) (.tmp 41) rfl w.heap.size (l := out) (news := NW) (d := 32) rfl (by rw [HTL.out]; rfl) (O3.out.below B4.out) (NRD.out _ G4.out) NWL.out (Nat.le_trans BEL.out.size (Nat.le_trans sz3 B4.out.size)) ?_
             intro A5 c5 w5 o5 g5 b5
             have FF := Lib.hid (FIN.out w4 w5 A5 c5 B4.out G4.out o5 g5 b5 (O3.out.below B4.out))
             clear g5 b5))
        refine ⟨RELZ.out w5 A5 c5 o5 FF.out.1 FF.out.2, ?_⟩
        show n - (out.length + NW.length) < n - out.length
        have := HTL.out
        omega
      · have hbz : ¬ ((32 : Int) ≤ (n : Int) - out.length) := by omega
        have hbz2 : (n : Int) - out.length < 32 := by omega
        have hbz3 : (n : Int) - out.length = (m : Int) := by omega
        have hbz4 : (m : Int) < 32 := by omega
        clear hm hbig
        go_wp2_with (first
          | (refine wpList_store_row rfl 29 (.tmp 12) (.tmp 32) rfl w3.heap.size (IV .u8 T1).toArray rfl rfl 29 Z32 (Blk.new w3 _ _) (by rw [S1'.out]; exact I32.out) (by rw [S1'.out, HZS32.out]) A1'.out ?_
             have G4 := Lib.hid (Blk.row (Blk.new w3 29 Z32) (IV .u8 T1).toArray)
             have B4 := Lib.hid (below_setRow ((Below.refl w3.heap.size w3).alloc (Nat.le_refl _) (.cells Z32 29)) (Nat.le_refl _) (IV .u8 T1).toArray)
             generalize (w3.alloc (.cells Z32 29)).setRow w3.heap.size (IV .u8 T1).toArray = w4 at G4 B4 ⊢)
          | (refine wpList_app rfl (.tmp 34) (.tmp 41) rfl w.heap.size (l := out) (news := NW) (d := 32) rfl (by rw [HTL.out]; rfl) (O3.out.below B4.out) (NRD.out _ G4.out) NWL.out (Nat.le_trans BEL.out.size (Nat.le_trans sz3 B4.out.size)) ?_
             intro A5 c5 w5 o5 g5 b5
             have FF := Lib.hid (FIN.out w4 w5 A5 c5 B4.out G4.out o5 g5 b5 (O3.out.below B4.out))
             clear g5 b5))
        refine ⟨RELZ.out w5 A5 c5 o5 FF.out.1 FF.out.2, ?_⟩
        show n - (out.length + NW.length) < n - out.length
        have := HTL.out
        omega
    · have he : out.length = n := by omega
      have hfin : out = hkdf key info n := by
        rw [hout]
        exact hkdf_at key info n k (by omega)
      have HO := Lib.hid hown
      have HB := Lib.hid bel
      have HF := Lib.hid hfin
      have HEE := Lib.hid he
      have hge : ¬ ((out.length : Int) < n) := by omega
      clear hown bel hfin hout hsl hol he
      go_wp2_with fail
      go_ret2
      exact ⟨A1, c1, by simp [HEE.out], by rw [← HF.out]; exact HO.out, HB.out⟩
end Go.Proofs.YtfpgnaeiiponmaaDoor
