/-
  The law's first question: the document's example.
-/
import Derived.Test.YtjibbegdieiknaaDoorMaAT
import Derived.Test.YtjibbegdieiknaaDoorMaAN
import Derived.Test.YtjibbegdieiknaaDoorMaAG
namespace Go.Proofs.YtjibbegdieiknaaDoor
open Go.RowKit
set_option maxRecDepth 100000
set_option linter.unusedVariables false
set_option linter.unusedSimpArgs false

def name8 : List Int := [131, 148, 200, 240, 62, 81, 87, 8]
theorem first_is : (lab (initL name8) nCl 32).take 4 = [192, 12, 241, 81] := by decide +kernel
theorem slice_arr32_4 (g : Nat) (w : World) :
    (Instr.sliceAt 22 (.pointer (some ⟨g, 0, none⟩)) none (some (.int .i64 4)) none).run Tryd.prog w = .ok (.slice (some ⟨g, 0, none⟩) 4 32) w := by
  rw [run_sliceAt_array_h (P := Tryd.prog) w 22 ⟨g, 0, none⟩ (by rw [arr32_len, arr32_elem]; exact Tryd.underlying22) .i64 4 (by omega) (by rw [arr32_len]; omega), arr32_elem, run_sizeOf_u8, arr32_len]
  simp [slicedAt, Addr.add]
set_option maxHeartbeats 1600000 in
theorem awake6_any (w : World) (hS : STab w) (hK : KTab w) : Calls Tryd.prog 6 #[] w fun r w' => r = .returned (.bool true) ∧ Below w.heap.size w w' := by
  obtain ⟨O1, hO1⟩ : ∃ O, O = lab (initL name8) nCl 32 := ⟨_, rfl⟩
  obtain ⟨O2, hO2⟩ : ∃ O, O = lab (initL name8) nSv 32 := ⟨_, rfl⟩
  have L1 : O1.length = 32 := by rw [hO1]; exact lab_length _ _ _
  have L2 : O2.length = 32 := by rw [hO2]; exact lab_length _ _ _
  have T1 := Lib.hid (show O1.take 4 = [192, 12, 241, 81] by rw [hO1]; exact first_is)
  have CF := Lib.hid (First_any (some ⟨w.heap.size, 0, none⟩) 8 name8 (w.alloc (.cells (IV .u8 name8).toArray 5)) (lit_sl name8 (0, 0) (by decide) rfl rfl) (by unfold Bytes; decide) (by decide) (hS.below ((Below.refl _ _).alloc (Nat.le_refl _) _)) (hK.below ((Below.refl _ _).alloc (Nat.le_refl _) _)))
  rw [← hO1, ← hO2, show name8.length = 8 from rfl] at CF
  have HB1 := Lib.hid (show Bytes O1 by rw [hO1]; exact lab_bytes _ _ _)
  obtain ⟨V1, hV1⟩ : ∃ V, V = (IV .u8 O1).toArray := ⟨_, rfl⟩
  obtain ⟨V2, hV2⟩ : ∃ V, V = (IV .u8 O2).toArray := ⟨_, rfl⟩
  rw [← hV1, ← hV2] at CF
  have S1 := Lib.hid (show V1.size = 32 by rw [hV1]; simp [IV, L1])
  have S2 := Lib.hid (show V2.size = 32 by rw [hV2]; simp [IV, L2])
  have A1 := Lib.hid (show V1.all (·.oneCell') = true by rw [hV1]; simp [IV, Value.oneCell'])
  have A2 := Lib.hid (show V2.all (·.oneCell') = true by rw [hV2]; simp [IV, Value.oneCell'])
  have HV1 := Lib.hid hV1
  have HL1 := Lib.hid L1
  have I32 := Lib.hid (show (Tryd.prog.info? 22).map (·.size) = some 32 by kernel_rfl)
  obtain ⟨Z, hZ⟩ : ∃ Z, Z = (IV .u8 (List.replicate 32 0)).toArray := ⟨_, rfl⟩
  have hz32 : ∀ w, (zeroValue 22).run Tryd.prog w = .ok (.agg Z) w := by rw [hZ]; exact zero32'
  have ZS := Lib.hid (show Z.size = 32 by rw [hZ]; simp [IV])
  have CS := Lib.hid (fun (g1 g2 c d : Nat) W (ha : Rd W (some ⟨g1, 0, none⟩) (O1.take 4)) (hb : Rd W (some ⟨g2, 0, none⟩) [192, 12, 241, 81]) => same_any (some ⟨g1, 0, none⟩) (some ⟨g2, 0, none⟩) c d (O1.take 4) [192, 12, 241, 81] W ha hb (HB1.out.take 4) (by unfold Bytes; decide))
  rw [T1.out, show sameB [192, 12, 241, 81] [192, 12, 241, 81] = true by unfold sameB; decide, show ([192, 12, 241, 81] : List Int).length = 4 from rfl] at CS
  have sl4 := slice_arr32_4
  clear hO1 hO2 L1 L2 hV1 hV2 hZ hS hK
  go_enter Tryd.func6, Tryd.ntmps6
  go_wp2_with (first
    | (go_at_call 20; refine CF.out.mono ?_; rintro e w1 ⟨rfl, b1'⟩
       have b1 := Lib.hid (show Below w.heap.size w w1 from ((Below.refl _ _).alloc (Nat.le_refl _) _).trans (b1'.mono (by simp)))
       have N1 := Lib.hid (show Blk ((w1.alloc (.cells Z 22)).alloc (.cells Z 22)) w1.heap.size 22 Z from (Blk.new w1 _ _).alloc _)
       have N2 := Lib.hid (show Blk ((w1.alloc (.cells Z 22)).alloc (.cells Z 22)) (w1.heap.size + 1) 22 Z from blk_second w1 _ _ _)
       have BB := Lib.hid (show Below w.heap.size w ((w1.alloc (.cells Z 22)).alloc (.cells Z 22)) from (b1.out.alloc b1.out.size _).alloc (by have := b1.out.size; simp; omega) _)
       clear b1')
    | (refine wpList_store_row rfl 22 (.tmp 1) (.tmp 6) rfl w1.heap.size V1 rfl rfl 22 Z N1.out (by rw [S1.out]; exact I32.out) (by rw [S1.out, ZS.out]) A1.out ?_
       have T2 := Lib.hid (Blk.row N1.out V1)
       have N3 := Lib.hid (N2.out.far_row (g2 := w1.heap.size) (by omega) V1)
       have B2 := Lib.hid (below_setRow (g := w1.heap.size) BB.out b1.out.size V1)
       generalize ((w1.alloc (.cells Z 22)).alloc (.cells Z 22)).setRow w1.heap.size V1 = w2 at T2 N3 B2 ⊢)
    | (refine wpList_store_row rfl 22 (.tmp 2) (.tmp 7) rfl (w1.heap.size + 1) V2 rfl rfl 22 Z N3.out (by rw [S2.out]; exact I32.out) (by rw [S2.out, ZS.out]) A2.out ?_
       have T3 := Lib.hid (T2.out.far_row (g2 := w1.heap.size + 1) (by omega) V2)
       have B3 := Lib.hid (below_setRow (g := w1.heap.size + 1) B2.out (by have := b1.out.size; omega) V2)
       generalize w2.setRow (w1.heap.size + 1) V2 = w3 at T3 B3 ⊢)
    | fail)
  have R3 : ∀ o, Rd (w3.alloc o) (some ⟨w1.heap.size, 0, none⟩) (O1.take 4) := fun o => by
    have h := T3.out
    rw [HV1.out] at h
    exact ((Sl.upto (h.sl (n := 32) (c := 32) HL1.out (Nat.le_refl _) (by omega)) (k := 4) (by rw [HL1.out]; omega)).alloc o).rd
  refine (CS.out w1.heap.size w3.heap.size 32 4 (w3.alloc (.cells (IV .u8 [192, 12, 241, 81]).toArray 5)) (by rw [← T1.out]; exact R3 _) (lit_sl [192, 12, 241, 81] (0, 0) (by decide) rfl rfl).rd).mono ?_
  rintro e w4 ⟨rfl, rfl⟩
  go_wp2_with fail
  go_ret
  exact ⟨rfl, B3.out.alloc B3.out.size _⟩
end Go.Proofs.YtjibbegdieiknaaDoor

/-
  A packet by value: masked, read, unmasked.
-/
namespace Go.Proofs.YtjibbegdieiknaaDoor
open Go.RowKit
set_option maxRecDepth 100000
set_option linter.unusedVariables false
set_option linter.unusedSimpArgs false

theorem xor8_twice {a b : Int} (ha : 0 ≤ a ∧ a < 256) (hb : 0 ≤ b ∧ b < 256) : bits .xor .u8 (bits .xor .u8 a b) b = a := by
  obtain ⟨x, rfl⟩ := Int.eq_ofNat_of_zero_le ha.1
  obtain ⟨y, rfl⟩ := Int.eq_ofNat_of_zero_le hb.1
  have h : x ^^^ y < 2 ^ 8 := Nat.xor_lt_two_pow (by omega) (by omega)
  rw [u8_xor_nat x y (by omega) (by omega), u8_xor_nat _ y (by omega) (by omega), Nat.xor_assoc, Nat.xor_self, Nat.xor_zero]
theorem xorb_twice : ∀ {l s : List Int}, Bytes l → Bytes s → l.length ≤ s.length → xorb (xorb l s) s = l
  | [], s, _, _, _ => by cases s <;> rfl
  | x :: l, [], _, _, h => by simp at h
  | x :: l, y :: s, hl, hs, h => by
    show bits .xor .u8 (bits .xor .u8 x y) y :: xorb (xorb l s) s = x :: l
    rw [xor8_twice (hl x (by simp)) (hs y (by simp)), xorb_twice (fun z hz => hl z (by simp [hz])) (fun z hz => hs z (by simp [hz])) (by simpa using h)]
theorem xorK_twice {L m : List Int} (hL : Bytes L) (hm : Bytes m) (a k : Nat) : xorK (xorK L a m k) a m k = L := by
  apply List.ext_getElem?
  intro i
  rw [xorK_at, xorK_at]
  cases h : L[i]? with
  | none => rfl
  | some x =>
    have hx := hL x (List.mem_of_getElem? h)
    simp only [Option.map_some]
    by_cases h2 : a ≤ i ∧ i < a + k
    · simp only [if_pos h2]; rw [xor8_twice hx (getD_byte hm _)]
    · simp only [if_neg h2]
theorem numB_be (pn : Int) (s : Nat) (hs : 1 ≤ s ∧ s ≤ 4) (h : 0 ≤ pn) : numB (be pn s) = pn % 256 ^ s := by
  have : s = 1 ∨ s = 2 ∨ s = 3 ∨ s = 4 := by omega
  rcases this with rfl | rfl | rfl | rfl <;> simp [numB, be] <;> omega

/-- The bytes of a packet under a mask. -/
def pkt (f : Int) (R N S m : List Int) : List Int := mF f (m.getD 0 0) :: (R ++ xorK N 0 m N.length ++ S)
theorem xorK_mid (g : Int) (R N S m : List Int) : xorK (g :: (R ++ N ++ S)) (1 + R.length) m N.length = g :: (R ++ xorK N 0 m N.length ++ S) := by
  apply List.ext_getElem?
  intro i
  rw [xorK_at]
  cases i with
  | zero => simp only [List.getElem?_cons_zero, Option.map_some]; rw [if_neg (by omega)]
  | succ i =>
    simp only [List.getElem?_cons_succ]
    by_cases h1 : i < R.length
    · rw [List.append_assoc, List.append_assoc, List.getElem?_append_left h1, List.getElem?_append_left h1]
      cases R[i]? with
      | none => rfl
      | some x => simp only [Option.map_some]; rw [if_neg (by omega)]
    · by_cases h2 : i < R.length + N.length
      · have e1 : (R ++ N ++ S)[i]? = N[i - R.length]? := by rw [List.append_assoc, List.getElem?_append_right (by omega), List.getElem?_append_left (by omega)]
        have e2 : (R ++ xorK N 0 m N.length ++ S)[i]? = (xorK N 0 m N.length)[i - R.length]? := by rw [List.append_assoc, List.getElem?_append_right (by omega), List.getElem?_append_left (by rw [xorK_length]; omega)]
        rw [e1, e2, xorK_at]
        cases N[i - R.length]? with
        | none => rfl
        | some x =>
          simp only [Option.map_some]
          rw [if_pos (by omega), if_pos (by omega), show 1 + (i + 1) - (1 + R.length) = 1 + (i - R.length) - 0 by omega]
      · rw [List.getElem?_append_right (by rw [List.length_append]; omega), List.getElem?_append_right (by rw [List.length_append, xorK_length]; omega), List.length_append, List.length_append, xorK_length]
        cases S[i - (R.length + N.length)]? with
        | none => rfl
        | some x => simp only [Option.map_some]; rw [if_neg (by omega)]
theorem pkt_is (f : Int) (R N S m : List Int) : xorK ((f :: (R ++ N ++ S)).set 0 (mF f (m.getD 0 0))) (1 + R.length) m N.length = pkt f R N S m := by
  rw [List.set_cons_zero, xorK_mid]; rfl
theorem pkt_length (f : Int) (R N S m : List Int) : (pkt f R N S m).length = 1 + R.length + N.length + S.length := by
  rw [pkt, List.length_cons, List.length_append, List.length_append, xorK_length]; omega
theorem pkt_take (f : Int) (R N S m rest : List Int) : (pkt f R N S m ++ rest).take (1 + R.length + N.length) = mF f (m.getD 0 0) :: (R ++ xorK N 0 m N.length) := by
  rw [pkt, show mF f (m.getD 0 0) :: (R ++ xorK N 0 m N.length ++ S) ++ rest = (mF f (m.getD 0 0) :: (R ++ xorK N 0 m N.length)) ++ (S ++ rest) by simp]
  rw [List.take_left' (by rw [List.length_cons, List.length_append, xorK_length]; omega)]
theorem pkt_drop (f : Int) (R N S m rest : List Int) : (pkt f R N S m ++ rest).drop (1 + R.length + N.length) = S ++ rest := by
  rw [pkt, show mF f (m.getD 0 0) :: (R ++ xorK N 0 m N.length ++ S) ++ rest = (mF f (m.getD 0 0) :: (R ++ xorK N 0 m N.length)) ++ (S ++ rest) by simp]
  rw [List.drop_left' (by rw [List.length_cons, List.length_append, xorK_length]; omega)]
theorem pkt_back (f : Int) (R N m : List Int) (hN : Bytes N) (hm : Bytes m) : xorK ((mF f (m.getD 0 0) :: (R ++ xorK N 0 m N.length)).set 0 f) (1 + R.length) m N.length = f :: (R ++ N) := by
  have h := xorK_mid f R (xorK N 0 m N.length) [] m
  rw [xorK_length, xorK_twice hN hm, List.append_nil, List.append_nil] at h
  rw [List.set_cons_zero, h]
/-- The sample lies behind the number's bytes. -/
theorem pkt_sample (f : Int) (R N S m rest : List Int) (hN : N.length ≤ 4) (hS : 20 ≤ N.length + S.length) :
    ((pkt f R N S m ++ rest).drop (1 + R.length + 4)).take 16 = (((f :: (R ++ N)) ++ S).drop (1 + R.length + 4)).take 16 := by
  have d : ∀ l : List Int, l.drop (1 + R.length + 4) = (l.drop (1 + R.length + N.length)).drop (4 - N.length) := fun l => by rw [List.drop_drop]; congr 1; omega
  have e2 : (f :: (R ++ N) ++ S).drop (1 + R.length + N.length) = S := List.drop_left' (by rw [List.length_cons, List.length_append]; omega)
  rw [d, d, pkt_drop, e2, List.drop_append_of_le_length (by omega), List.take_append_of_le_length (by rw [List.length_drop]; omega)]

/-- What stands between a head's first byte and the number; the first byte. -/
def midS (lg : Bool) (lv : Int) (a b : List Int) (z : Int) : List Int := if lg then [0, 0, 0, 1, (a.length : Int)] ++ a ++ [(b.length : Int)] ++ b ++ (if lv = 0 then [0] else []) ++ wenc z 2 else a
def firS (lg : Bool) (lv : Int) (ph : Bool) (s : Nat) : Int := if lg then 192 + 32 * lv + (s : Int) - 1 else if ph then 64 + (s : Int) - 1 + 4 else 64 + (s : Int) - 1
theorem by_form {lg : Bool} {lv : Int} {ph : Bool} {a b : List Int} {pn L : Int} {s : Nat} (h : byE lg lv ph a b s L = 0) : byB lg lv ph a b pn s L = firS lg lv ph s :: (midS lg lv a b ((s : Int) + L) ++ be pn s) := by
  rw [byB, if_pos h, Int.toNat_natCast]
  cases lg
  · rfl
  · simp only [longS, midS, firS, if_true, List.cons_append, List.nil_append, List.append_assoc]
theorem long_facts : ∀ v : Fin 2, ∀ s : Fin 4, ∀ k : Fin 256, (¬ mF (192 + 32 * (v.val : Int) + (s.val : Int)) (k.val : Int) < 128 ∧ fixOk (mF (192 + 32 * (v.val : Int) + (s.val : Int)) (k.val : Int)) = true ∧ lvlOk (mF (192 + 32 * (v.val : Int) + (s.val : Int)) (k.val : Int)) = true ∧
    lvl (mF (192 + 32 * (v.val : Int) + (s.val : Int)) (k.val : Int)) = (v.val : Int) ∧ mF (mF (192 + 32 * (v.val : Int) + (s.val : Int)) (k.val : Int)) (k.val : Int) = 192 + 32 * (v.val : Int) + (s.val : Int) ∧
    bits .and .u8 (192 + 32 * (v.val : Int) + (s.val : Int)) 3 = (s.val : Int) ∧ bits .and .u8 (192 + 32 * (v.val : Int) + (s.val : Int)) 12 = 0) := by decide +kernel
theorem short_facts : ∀ v : Fin 2, ∀ s : Fin 4, ∀ k : Fin 256, (mF (64 + 4 * (v.val : Int) + (s.val : Int)) (k.val : Int) < 128 ∧ ¬ mF (64 + 4 * (v.val : Int) + (s.val : Int)) (k.val : Int) / 64 % 2 = 0 ∧
    mF (mF (64 + 4 * (v.val : Int) + (s.val : Int)) (k.val : Int)) (k.val : Int) = 64 + 4 * (v.val : Int) + (s.val : Int) ∧
    bits .and .u8 (64 + 4 * (v.val : Int) + (s.val : Int)) 3 = (s.val : Int) ∧ bits .and .u8 (64 + 4 * (v.val : Int) + (s.val : Int)) 4 = 4 * (v.val : Int) ∧ bits .and .u8 (64 + 4 * (v.val : Int) + (s.val : Int)) 24 = 0) := by decide +kernel
theorem fir_facts (lg : Bool) (lv : Int) (ph : Bool) (s : Nat) (k : Int) (hs : 1 ≤ s ∧ s ≤ 4) (hk : 0 ≤ k ∧ k < 256) (hlv : lg = true → lv = 0 ∨ lv = 1) (hph : lg = true → ph = false) :
    (lg = true → ¬ mF (firS lg lv ph s) k < 128 ∧ fixOk (mF (firS lg lv ph s) k) = true ∧ lvlOk (mF (firS lg lv ph s) k) = true ∧ lvl (mF (firS lg lv ph s) k) = lv) ∧
    (lg = false → mF (firS lg lv ph s) k < 128 ∧ ¬ mF (firS lg lv ph s) k / 64 % 2 = 0) ∧
    mF (mF (firS lg lv ph s) k) k = firS lg lv ph s ∧ bits .and .u8 (firS lg lv ph s) 3 = (s : Int) - 1 ∧ (lg = false → bits .and .u8 (firS lg lv ph s) 4 = if ph then 4 else 0) ∧ bits .and .u8 (firS lg lv ph s) (if lg then 12 else 24) = 0 ∧
    0 ≤ firS lg lv ph s ∧ firS lg lv ph s < 256 := by
  obtain ⟨k, rfl⟩ := Int.eq_ofNat_of_zero_le hk.1
  have hk' : k < 256 := by omega
  cases lg
  · have e : firS false lv ph s = 64 + 4 * (((if ph then 1 else 0 : Nat)) : Int) + ((s - 1 : Nat) : Int) := by unfold firS; cases ph <;> simp <;> omega
    have h := short_facts ⟨if ph then 1 else 0, by cases ph <;> decide⟩ ⟨s - 1, by omega⟩ ⟨k, hk'⟩
    simp only at h
    rw [← e] at h
    obtain ⟨h1, h2, h3, h4, h5, h6⟩ := h
    refine ⟨by simp, fun _ => ⟨h1, h2⟩, h3, by rw [h4]; omega, fun _ => by rw [h5]; cases ph <;> rfl, h6, ?_, ?_⟩ <;> rw [e] <;> cases ph <;> simp <;> omega
  · obtain rfl := hph rfl
    obtain ⟨v, hv, rfl⟩ : ∃ v : Nat, v < 2 ∧ lv = (v : Int) := by
      rcases hlv rfl with h | h
      · exact ⟨0, by omega, by rw [h]; rfl⟩
      · exact ⟨1, by omega, by rw [h]; rfl⟩
    have e : firS true (v : Int) false s = 192 + 32 * (v : Int) + ((s - 1 : Nat) : Int) := by unfold firS; simp; omega
    have h := long_facts ⟨v, hv⟩ ⟨s - 1, by omega⟩ ⟨k, hk'⟩
    simp only at h
    rw [← e] at h
    obtain ⟨h1, h2, h3, h4, h5, h6, h7⟩ := h
    refine ⟨fun _ => ⟨h1, h2, h3, h4⟩, by simp, h5, by rw [h6]; omega, by simp, h7, ?_, ?_⟩ <;> rw [e] <;> omega
theorem right_cases {lg : Bool} {lv : Int} {ph : Bool} {a b : List Int} (h : rightB lg lv ph a b = true) : (lg = true ∧ (lv = 0 ∨ lv = 1) ∧ a.length ≤ 20 ∧ b.length ≤ 20 ∧ ph = false) ∨ (lg = false ∧ lv = 2 ∧ a.length = 8 ∧ b = []) := by
  unfold rightB at h
  cases lg
  · simp at h; exact .inr ⟨rfl, h.1.1, by omega, h.2⟩
  · simp at h; exact .inl ⟨rfl, by omega, by omega, by omega, h.2⟩
/-- What Read makes of a masked packet. -/
theorem pkt_read (lg : Bool) (lv : Int) (ph : Bool) (a b : List Int) (s : Nat) (N S m rest : List Int) (hr : rightB lg lv ph a b = true) (hs : 1 ≤ s ∧ s ≤ 4) (hN : N.length = s) (hS : 20 ≤ s + S.length) (hSl : S.length ≤ 16379) (hm : Bytes m) (hrest : lg = false → rest = [])
    (q : List Int) (hq : q = pkt (firS lg lv ph s) (midS lg lv a b ((s : Int) + S.length)) N S m ++ rest) :
    rdErr q = 0 ∧ rdAt q = ((1 + (midS lg lv a b ((s : Int) + S.length)).length : Nat) : Int) ∧ rdAt q + hdV q 0 = ((q.length - rest.length : Nat) : Int) ∧ hdLong q 0 = lg ∧ hdLvl q 0 = lv ∧ hdTo q 0 = a ∧ hdFr q 0 = b := by
  have hk := getD_byte hm 0
  have hql : q.length = 1 + (midS lg lv a b ((s : Int) + S.length)).length + s + S.length + rest.length := by rw [hq, List.length_append, pkt_length, hN]
  rcases right_cases hr with ⟨rfl, hlv, ha, hb, rfl⟩ | ⟨rfl, rfl, ha, rfl⟩
  · obtain ⟨f1, _⟩ := fir_facts true lv false s (m.getD 0 0) hs hk (fun _ => hlv) (fun _ => rfl)
    obtain ⟨g1, g2, g3, g4⟩ := f1 rfl
    obtain ⟨h1, h2, h3, h4, h5, h6, h7⟩ := long_allF _ lv ((s : Int) + S.length) a b (xorK N 0 m N.length ++ (S ++ rest)) hlv g1 g2 g3 g4 ha hb (by omega) (by simp only [List.length_append, xorK_length]; omega) q (by
      rw [hq, pkt, midS]
      simp only [if_true, List.cons_append, List.nil_append, List.append_assoc])
    refine ⟨h1, ?_, ?_, h4, h5, h6, h7⟩
    · rw [rdAt, h3]; simp only [List.length_append, xorK_length]; omega
    · rw [rdAt, h3, h2]; simp only [List.length_append, xorK_length]; omega
  · obtain rfl := hrest rfl
    obtain ⟨_, f2, _⟩ := fir_facts false 2 ph s (m.getD 0 0) hs hk (by simp) (by simp)
    obtain ⟨g1, g2⟩ := f2 rfl
    have hmid : midS false 2 a [] ((s : Int) + S.length) = a := rfl
    rw [hmid] at hq hql ⊢
    have hq2 : q = mF (firS false 2 ph s) (m.getD 0 0) :: (a ++ (xorK N 0 m N.length ++ S)) := by rw [hq, pkt]; simp
    have hl : (a ++ (xorK N 0 m N.length ++ S)).length = 8 + s + S.length := by simp only [List.length_append, xorK_length]; omega
    obtain ⟨h1, h2, h3, h4, h5, h6, h7⟩ := (short_gen (f := mF (firS false 2 ph s) (m.getD 0 0)) (r := a ++ (xorK N 0 m N.length ++ S)) g1 g2).2.2 (by omega)
    rw [← hq2] at h1 h2 h3 h4 h5 h6 h7
    refine ⟨h1, ?_, ?_, h4, h5, ?_, h7⟩
    · rw [h2]; omega
    · rw [h2, h3, hl]; simp only [List.length_nil] at hql ⊢; omega
    · rw [h6, List.take_left' ha]
end Go.Proofs.YtjibbegdieiknaaDoor
