import Derived.Test.YtpedajjmbdjfiaaPolyM
namespace Go.Proofs.Ytpedajjmbdjfiaa
open Go.RowKit
set_option linter.unusedVariables false
set_option linter.unusedSimpArgs false

/-- Nothing written: any slice of no bytes. -/
theorem write_nil (ga acc f0 f1 z0 z1 c : Nat) (A : Option Addr) (w : World) (ha : Au w ga acc f0 f1 z0 z1) :
    Calls Try.prog 27 #[.pointer (some ⟨ga, 0, none⟩), .slice A 0 c] w fun e w' =>
      e = .returned (.tuple #[]) ∧ Au w' ga acc f0 f1 z0 z1 ∧ w.grownBy w' (some ga) := by
  have HA := Lib.hid ha
  clear ha
  go_enter Try.func27, Try.ntmps27
  go_wp2_with fail
  go_loopw [1] (fun p wr => p = .slice A 0 c ∧ wr = w) (fun p _ => 0)
  case atStart => exact ⟨rfl, rfl⟩
  case round =>
    obtain ⟨rfl, rfl⟩ := hrel
    go_wp2_with fail
    exact bodyPost_end (v := .tuple #[]) (results_none (by rfl) _ _ _) (by rfl) ⟨rfl, HA.out, World.grownBy.refl _ _⟩
/-- 'write' of any row that is read and lies apart from the authenticator. -/
theorem write_all (ga acc f0 f1 z0 z1 c : Nat) (A : Option Addr) (l : List Int) (w : World) (ha : Au w ga acc f0 f1 z0 z1) (hr : Rd w A l) (hne : ∀ a, A = some a → 0 < l.length → a.block ≠ ga) (hB : Bytes l) (hc : l.length ≤ c) (hm : c ≤ 9223372036854775807)
    (h3 : f0 < 1152921504606846976) (h4 : f1 < 1152921504606846976) :
    Calls Try.prog 27 #[.pointer (some ⟨ga, 0, none⟩), .slice A l.length c] w fun e w' =>
      e = .returned (.tuple #[]) ∧ Au w' ga (absorb (f0 + f1 * 18446744073709551616) acc l) f0 f1 z0 z1 ∧ w.grownBy w' (some ga) := by
  by_cases h : l.length = 0
  · obtain rfl := List.eq_nil_of_length_eq_zero h
    exact write_nil ga acc f0 f1 z0 z1 c A w ha
  · obtain ⟨b, off, rfl, hb⟩ := hr.some_ (by omega)
    exact write_any ga acc f0 f1 z0 z1 b off c l w ha hr (hne _ rfl (by omega)) hB hc hm h3 h4
theorem fw_lt (l : List Int) (o : Nat) (m : Nat) (hm : m < 1152921504606846976) : fw l o m < 1152921504606846976 := Nat.lt_of_le_of_lt Nat.and_le_right hm
/-- The tag of RFC 8439, by value. -/
def polyTag (key l : List Int) : List Int :=
  tg (absorb (fw key 0 1152921487695413247 + fw key 8 1152921487695413244 * 18446744073709551616) 0 l % 1361129467683753853853498429727072845819 % 340282366920938463463374607431768211456 + ((w8 key 16).toNat + (w8 key 24).toNat * 18446744073709551616))
theorem Au.new {w : World} {g : Nat} {key : List Int} (hB : Bytes key) (h : Blk w g 76 #[.int .u64 0, .int .u64 0, .int .u64 0, .int .u64 (fw key 0 1152921487695413247), .int .u64 (fw key 8 1152921487695413244), .int .u64 (w8 key 16), .int .u64 (w8 key 24)]) :
    Au w g 0 (fw key 0 1152921487695413247) (fw key 8 1152921487695413244) (w8 key 16).toNat (w8 key 24).toNat := by
  rw [← (w8_nat hB 16).1, ← (w8_nat hB 24).1] at h
  exact ⟨0, 0, 0, h, by omega, by omega, by omega, rfl⟩

theorem put8_length (l : List Int) (o : Nat) (v : Int) (h : o + 8 ≤ l.length) : (put8 l o v).length = l.length := by
  rw [put8, put4_length _ _ _ (by rw [put4_length _ _ _ (by omega)]; omega), put4_length _ _ _ (by omega)]
theorem tg_length (n : Nat) : (tg n).length = 16 := by
  rw [tg, put8_length _ _ _ (by rw [put8_length _ _ _ (by simp)]; simp), put8_length _ _ _ (by simp)]; simp

set_option maxHeartbeats 800000 in
theorem Tag_any (key l : List Int) (A : Option Addr) (c : Nat) (w : World) (hk : key.length = 32) (hkb : Bytes key) (hr : Rd w A l) (hB : Bytes l) (hc : l.length ≤ c) (hm : c ≤ 9223372036854775807) :
    Calls Try.prog 17 #[.agg (IV .u8 key).toArray, .slice A l.length c] w fun e w' => e = .returned (.agg (IV .u8 (polyTag key l)).toArray) ∧ Below w.heap.size w w' := by
  have CN := Lib.hid (fun W => newAuthenticator_any key W hk hkb)
  obtain ⟨KA, hKA⟩ : ∃ KA, KA = (IV .u8 key).toArray := ⟨_, rfl⟩
  rw [← hKA] at CN ⊢
  have SK := Lib.hid (show KA.size = 32 by rw [hKA]; simp [IV, hk])
  have I32 := Lib.hid (show (Try.prog.info? 22).map (·.size) = some 32 by kernel_rfl)
  obtain ⟨OUT, hOUT⟩ : ∃ OUT, OUT = (IV .u8 (polyTag key l)).toArray := ⟨_, rfl⟩
  rw [← hOUT]
  have HOUT := Lib.hid hOUT
  have HR := Lib.hid hr
  have HBy := Lib.hid hB
  have HKB := Lib.hid hkb
  clear hKA hOUT hr hB hkb hk
  go_enter Try.func17, Try.ntmps17
  go_wp2_with (refine wpList_load_row rfl 22 (.tmp 2) rfl w.heap.size rfl 22 KA (0, 0) _ ((Blk.new w _ KA).alloc _) Try.underlying22 rfl (by rw [SK.out]; exact I32.out) ?_)
  refine (CN.out _).mono ?_
  rintro e w1 ⟨ga, rfl, hga, blk, b1⟩
  have hga' : w.heap.size + 1 + 1 ≤ ga := by simpa using hga
  have au := Au.new HKB.out blk
  have ko : Blk w1 (w.heap.size + 1) 25 (IV .u8 (List.replicate 16 0)).toArray := (blk_second w (.cells KA 22) 25 (IV .u8 (List.replicate 16 0)).toArray).below b1 (by simp)
  have bw : Below w.heap.size w w1 := (((Below.refl _ _).alloc (Nat.le_refl _) _).alloc (by simp) _).trans (b1.mono (by simp; omega))
  have rd1 := HR.out.below bw
  have lga := au.words
  have hl1 : ga < w1.heap.size := by obtain ⟨_, _, _, hb, _⟩ := lga; exact hb.lt
  have KO := Lib.hid ko
  have BW := Lib.hid bw
  have CW := Lib.hid (write_all ga 0 _ _ _ _ c A l w1 au rd1 (fun a ha h0 => by
    obtain ⟨b, off, e, hb⟩ := HR.out.some_ h0
    rw [ha] at e; injection e with e; subst e; exact Nat.ne_of_lt (Nat.lt_of_lt_of_le hb (by omega))) HBy.out hc hm (fw_lt _ _ _ (by decide)) (fw_lt _ _ _ (by decide)))
  clear hga blk b1 au ko bw rd1 lga
  go_wp2_with fail
  refine CW.out.mono ?_
  rintro e w2 ⟨rfl, au2, g2⟩
  have lga2 : ga < w2.heap.size := Nat.lt_of_lt_of_le hl1 g2.size
  have KO2 := Lib.hid (KO.out.grown g2 (by simp; omega))
  have BW2 := Lib.hid (grown_below BW.out g2 BW.out.size (by omega))
  have CT := Lib.hid (tag_any ga _ _ _ _ _ w2 au2 (w8_nat HKB.out 16).2 (w8_nat HKB.out 24).2)
  have HO := Lib.hid (show (IV .u8 (polyTag key l)).toArray = OUT from HOUT.out.symm)
  have SOUT := Lib.hid (show OUT.size = 16 by rw [HOUT.out]; simp [IV, polyTag, tg_length])
  have AOUT := Lib.hid (show OUT.all (·.oneCell') = true by rw [HOUT.out]; simp [IV, Value.oneCell'])
  have I16 := Lib.hid (show (Try.prog.info? 25).map (·.size) = some 16 by kernel_rfl)
  clear au2 g2
  go_wp2_with fail
  refine CT.out.mono ?_
  rintro e w3 ⟨rfl, b3⟩
  rw [show (IV .u8 (tg _)).toArray = OUT from HO.out]
  have KO3 := Lib.hid (KO2.out.below b3 KO2.out.lt)
  have BW3 := Lib.hid (BW2.out.trans (b3.mono BW2.out.size))
  clear b3
  go_wp2_with (refine wpList_store_row rfl 25 (.tmp 4) (.tmp 12) rfl (w.heap.size + 1) OUT rfl rfl 25 _ KO3.out (by rw [SOUT.out]; exact I16.out) (by rw [SOUT.out]; rfl) AOUT.out ?_)
  refine bodyPost_ret (v := .agg OUT) (results_cell_row rfl _ _ (w.heap.size + 1) 25 _ (0, 0) _ rfl (Blk.row KO3.out _) Try.underlying25 rfl (by rw [SOUT.out]; exact I16.out)) rfl ⟨rfl, ?_⟩
  exact below_setRow BW3.out (by omega) _
end Go.Proofs.Ytpedajjmbdjfiaa
