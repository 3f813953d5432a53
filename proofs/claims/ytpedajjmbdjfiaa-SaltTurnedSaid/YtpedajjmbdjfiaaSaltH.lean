/-
  sealTag: the tag of what is closed.
-/
import Derived.Test.YtpedajjmbdjfiaaSaltG
namespace Go.Proofs.Ytpedajjmbdjfiaa
open Go.RowKit
set_option linter.unusedVariables false

/-- The tag of what is closed, by value. -/
def sealT (key nonce closed beside : List Int) : List Int :=
  let once := stream key nonce 0 32
  let R := fw once 0 1152921487695413247 + fw once 8 1152921487695413244 * 18446744073709551616
  tg (absorb R (padA R (padA R 0 beside) closed) (put8 (put8 (List.replicate 16 0) 0 beside.length) 8 closed.length) % 1361129467683753853853498429727072845819 % 340282366920938463463374607431768211456 + ((w8 once 16).toNat + (w8 once 24).toNat * 18446744073709551616))
theorem sealT_length (key nonce closed beside : List Int) : (sealT key nonce closed beside).length = 16 := tg_length _

/-- A whole row is loaded in a region whose order is open. -/
theorem wpStill_load_row {P : Program} {ops : Array Oper} {w : World} {Q : Act → Prop} {rest : List Oper} {o : Oper} {a : Act} (hgd : o.guard = none) (ty : TypeId) (x : Operand) (ho : o.op = .load ty x)
    (g : Nat) (hx : a.eval x = .pointer (some ⟨g, 0, none⟩)) (t : TypeId) (cs : Array Value) (fr : Nat × Nat) (d : TypeDesc) (hg : w.heap[g]? = some (.cells cs t fr))
    (hu : P.underlying ty = some d) (hd : (match d with | .struct _ | .array _ _ => true | _ => false) = true) (hi : (P.info? ty).map (·.size) = some cs.size)
    (h : wpStill P ops w Q rest (a.put o.dst (.agg cs))) : wpStill P ops w Q (o :: rest) a :=
  wpStill_step fun K hK => by
    have e : Region.wanted o (yielded ops a.tmps) = true := by simp [Region.wanted, hgd]
    rw [if_pos e]
    unfold Oper.still execOp
    simp only [ho, hx, Instr.loadAt, Instr.sureAddr, Sem.run_bind, Sem.run_pure, Result.andThen_ok, run_loadVar_row w g t ty cs fr d hg hu hd hi]
    rw [Oper.stillUpon_value]
    exact hK _ h

theorem put4_bytes {l : List Int} (h : Bytes l) (o : Nat) (v : Int) : Bytes (put4 l o v) := ((h.take _).append (le4_bytes v)).append (h.drop _)
theorem put8_bytes {l : List Int} (h : Bytes l) (o : Nat) (v : Int) : Bytes (put8 l o v) := by
  unfold put8
  exact put4_bytes (put4_bytes h _ _) _ _
theorem sealT_bytes (key nonce closed beside : List Int) : Bytes (sealT key nonce closed beside) := put8_bytes (put8_bytes (zeros_bytes _) _ _) _ _

set_option maxHeartbeats 1600000 in
theorem sealTag_any (key nonce closed beside : List Int) (A B : Option Addr) (c d : Nat) (w : World) (hk : key.length = 32) (hkb : Bytes key) (hnl : nonce.length = 12) (hnb : Bytes nonce)
    (hc : Rd w A closed) (hcb : Bytes closed) (hcc : closed.length ≤ c) (hcm : c ≤ 9223372036854775807) (hb : Rd w B beside) (hbb : Bytes beside) (hdd : beside.length ≤ d) (hdm : d ≤ 9223372036854775807) :
    Calls Try.prog 31 #[.agg (IV .u8 key).toArray, .agg (IV .u8 nonce).toArray, .slice A closed.length c, .slice B beside.length d] w fun e w' =>
      e = .returned (.agg (IV .u8 (sealT key nonce closed beside)).toArray) ∧ Below w.heap.size w w' := by
  obtain ⟨OUT, hOUT⟩ : ∃ OUT, OUT = (IV .u8 (sealT key nonce closed beside)).toArray := ⟨_, rfl⟩
  rw [← hOUT]
  have HOUT := Lib.hid hOUT
  have CX := Lib.hid (fun (g : Nat) W (hb : Blk W g 22 (IV .u8 (List.replicate 32 0)).toArray) => xor_any g 22 (List.replicate 32 0) [] 32 key nonce 0 W (by rw [List.append_nil]; exact hb) (zeros_bytes 32) (by simp) (by omega) hk hkb hnl hnb (by unfold W32; omega))
  rw [List.length_replicate, xorb_stream, List.append_nil] at CX
  obtain ⟨KA, hKA⟩ : ∃ KA, KA = (IV .u8 key).toArray := ⟨_, rfl⟩
  obtain ⟨NA, hNA⟩ : ∃ NA, NA = (IV .u8 nonce).toArray := ⟨_, rfl⟩
  rw [← hKA, ← hNA] at CX ⊢
  obtain ⟨once, honce⟩ : ∃ o, o = stream key nonce 0 32 := ⟨_, rfl⟩
  have HO := Lib.hid honce
  have hol : once.length = 32 := by rw [honce, stream_length]
  have hob : Bytes once := by rw [honce]; exact stream_bytes _ _ _ _
  rw [← honce] at CX
  have CN := Lib.hid (fun W => newAuthenticator_any once W hol hob)
  obtain ⟨OA, hOA⟩ : ∃ OA, OA = (IV .u8 once).toArray := ⟨_, rfl⟩
  rw [← hOA] at CX CN
  have SK := Lib.hid (show KA.size = 32 by rw [hKA]; simp [IV, hk])
  have SN := Lib.hid (show NA.size = 12 by rw [hNA]; simp [IV, hnl])
  have SO := Lib.hid (show OA.size = 32 by rw [hOA]; simp [IV, hol])
  have I32 := Lib.hid (show (Try.prog.info? 22).map (·.size) = some 32 by kernel_rfl)
  have I12 := Lib.hid (show (Try.prog.info? 23).map (·.size) = some 12 by kernel_rfl)
  have I16 := Lib.hid (show (Try.prog.info? 25).map (·.size) = some 16 by kernel_rfl)
  have HC := Lib.hid hc
  have HB := Lib.hid hb
  have HOB := Lib.hid hob
  have HCB := Lib.hid hcb
  have HBB := Lib.hid hbb
  have hz32 : ∀ W : World, (Instr.sliceAt 22 (.pointer (some ⟨w.heap.size + 1 + 1 + 1, 0, none⟩)) none none none).run Try.prog W = _ := slice_arr32z _
  clear hOUT hKA hNA hk hkb hnl hnb honce hol hob hOA hc hb hcb hbb
  go_enter Try.func31, Try.ntmps31
  go_wp2_with fail
  obtain ⟨W, hW⟩ : ∃ W, W = (((w.alloc (.cells KA 22)).alloc (.cells NA 23)).alloc (.cells (IV .u8 (List.replicate 16 0)).toArray 25)).alloc (.cells (IV .u8 (List.replicate 32 0)).toArray 22) := ⟨_, rfl⟩
  obtain ⟨gO, hgO⟩ : ∃ g, g = w.heap.size + 1 + 1 + 1 := ⟨_, rfl⟩
  have bk : Blk W w.heap.size 22 KA := by rw [hW]; exact (((Blk.new w _ KA).alloc _).alloc _).alloc _
  have bn : Blk W (w.heap.size + 1) 23 NA := by rw [hW]; exact ((blk_second w _ _ NA).alloc _).alloc _
  have br : Blk W (w.heap.size + 1 + 1) 25 (IV .u8 (List.replicate 16 0)).toArray := by
    rw [hW]
    have h := (blk_second (w.alloc (.cells KA 22)) (.cells NA 23) 25 (IV .u8 (List.replicate 16 0)).toArray).alloc (.cells (IV .u8 (List.replicate 32 0)).toArray 22)
    simpa using h
  have bo : Blk W gO 22 (IV .u8 (List.replicate 32 0)).toArray := by
    rw [hW, hgO]
    have h := blk_second ((w.alloc (.cells KA 22)).alloc (.cells NA 23)) (.cells (IV .u8 (List.replicate 16 0)).toArray 25) 22 (IV .u8 (List.replicate 32 0)).toArray
    simpa using h
  have bl : Below w.heap.size w W := by rw [hW]; exact ((((Below.refl _ _).alloc (Nat.le_refl _) _).alloc (by simp) _).alloc (by simp; omega) _).alloc (by simp; omega) _
  show Code.wp _ _ _ _ ((((w.alloc (.cells KA 22)).alloc (.cells NA 23)).alloc (.cells (IV .u8 (List.replicate 16 0)).toArray 25)).alloc (.cells (IV .u8 (List.replicate 32 0)).toArray 22))
  rw [← hW, ← hgO]
  rw [← hgO] at hz32
  have HGO := Lib.hid hgO
  clear hW hgO
  refine wp_region_still_tail 3 (by kernel_rfl) (by kernel_rfl) ?_
  simp only [List.take_succ_cons, List.take_zero, List.drop_succ_cons, List.drop_zero]
  change wpStill _ _ W.drew (fun a' => wpList _ _ _ _ a' W.drew) _ _
  have dk : Blk W.drew w.heap.size 22 KA := bk
  have dn : Blk W.drew (w.heap.size + 1) 23 NA := bn
  have dr : Blk W.drew (w.heap.size + 1 + 1) 25 (IV .u8 (List.replicate 16 0)).toArray := br
  have dO : Blk W.drew gO 22 (IV .u8 (List.replicate 32 0)).toArray := bo
  have dl : Below w.heap.size w W.drew := bl.drew
  clear bk bn br bo bl
  generalize W.drew = w1 at dk dn dr dO dl ⊢
  still_step
  refine wpStill_load_row rfl 22 (.tmp 4) rfl w.heap.size rfl 22 KA (0, 0) _ dk Try.underlying22 rfl (by rw [SK.out]; exact I32.out) ?_
  refine wpStill_load_row rfl 23 (.tmp 5) rfl (w.heap.size + 1) rfl 23 NA (0, 0) _ dn Try.underlying23 rfl (by rw [SN.out]; exact I12.out) ?_
  refine wpStill_nil ?_
  have hlg : w.heap.size + 1 + 1 < gO := by have := HGO.out; omega
  clear hz32
  go_wp2_with fail
  refine (CX.out gO _ dO).mono ?_
  rintro e w2 ⟨rfl, bo, gr⟩
  have RK := Lib.hid (show Blk w2 (w.heap.size + 1 + 1) 25 (IV .u8 (List.replicate 16 0)).toArray from dr.grown gr (by intro h; injection h; omega))
  have BO := Lib.hid bo
  have BL := Lib.hid (show Below w.heap.size w w2 from grown_below dl gr dl.size (by omega))
  clear dk dn dr dO dl bo gr
  go_wp2_with (refine wpList_load_row rfl 22 _ rfl gO rfl 22 OA (0, 0) _ BO.out Try.underlying22 rfl (by rw [SO.out]; exact I32.out) ?_)
  refine (CN.out _).mono ?_
  rintro e w3 ⟨ga, rfl, hga, blk, b3⟩
  have au := Au.new HOB.out blk
  have hz := And.intro (w8_nat HOB.out 16).2 (w8_nat HOB.out 24).2
  have h3 : fw once 0 1152921487695413247 < 1152921504606846976 := fw_lt _ _ _ (by decide)
  have h4 : fw once 8 1152921487695413244 < 1152921504606846976 := fw_lt _ _ _ (by decide)
  obtain ⟨f0, hf0⟩ : ∃ f, f = fw once 0 1152921487695413247 := ⟨_, rfl⟩
  obtain ⟨f1, hf1⟩ : ∃ f, f = fw once 8 1152921487695413244 := ⟨_, rfl⟩
  obtain ⟨z0, hz0⟩ : ∃ f, f = (w8 once 16).toNat := ⟨_, rfl⟩
  obtain ⟨z1, hz1⟩ : ∃ f, f = (w8 once 24).toNat := ⟨_, rfl⟩
  rw [← hf0, ← hf1, ← hz0, ← hz1] at au
  rw [← hf0] at h3
  rw [← hf1] at h4
  rw [← hz0, ← hz1] at hz
  have HF := Lib.hid (And.intro (And.intro hf0 hf1) (And.intro hz0 hz1))
  have hg2 : w.heap.size + 1 + 1 < ga := by have := RK.out.lt; omega
  have RK3 := Lib.hid (RK.out.below b3 RK.out.lt)
  have BL3 := Lib.hid (BL.out.trans (b3.mono BL.out.size))
  have hg3 : ga < w3.heap.size := blk.lt
  have C1 := Lib.hid (writePadded_any ga 0 f0 f1 z0 z1 d B beside w w3 au HB.out (by omega) BL3.out HBB.out hdd hdm h3 h4)
  have s0 : w.heap.size ≤ w3.heap.size := BL3.out.size
  clear au blk b3 hf0 hf1 hz0 hz1 RK BL BO hga
  go_wp2_with fail
  refine C1.out.mono ?_
  rintro e w4 ⟨rfl, au, gr⟩
  obtain ⟨a1, ha1⟩ : ∃ a, a = padA (f0 + f1 * 18446744073709551616) 0 beside := ⟨_, rfl⟩
  rw [← ha1] at au
  have HA1 := Lib.hid ha1
  have RK4 := Lib.hid (RK3.out.grown gr (by intro h; injection h; omega))
  have BL4 := Lib.hid (grown_below BL3.out gr s0 (by omega))
  have hg4 : ga < w4.heap.size := Nat.lt_of_lt_of_le hg3 gr.size
  have C2 := Lib.hid (writePadded_any ga a1 f0 f1 z0 z1 c A closed w w4 au HC.out (by omega) BL4.out HCB.out hcc hcm h3 h4)
  have s4 : w.heap.size ≤ w4.heap.size := BL4.out.size
  clear au gr RK3 BL3 C1 ha1
  go_wp2_with fail
  refine C2.out.mono ?_
  rintro e w5 ⟨rfl, au, gr⟩
  obtain ⟨a2, ha2⟩ : ∃ a, a = padA (f0 + f1 * 18446744073709551616) a1 closed := ⟨_, rfl⟩
  rw [← ha2] at au
  have HA2 := Lib.hid ha2
  have RK5 := Lib.hid (RK4.out.grown gr (by intro h; injection h; omega))
  have BL5 := Lib.hid (grown_below BL4.out gr s4 (by omega))
  have hg5 : ga < w5.heap.size := Nat.lt_of_lt_of_le hg4 gr.size
  have AU5 := Lib.hid au
  have s5 : w.heap.size ≤ w5.heap.size := BL5.out.size
  clear au gr RK4 BL4 C2 ha2
  have y1 := slice_arr16_8 w5.heap.size
  have y2 := slice_arr16_from8 w5.heap.size
  have y3 := slice_arr16z w5.heap.size
  go_wp2_with fail
  obtain ⟨gl, hgl⟩ : ∃ g, g = w5.heap.size := ⟨_, rfl⟩
  have bl0 : Blk (w5.alloc (.cells (IV .u8 (List.replicate 16 0)).toArray 25)) gl 25 (IV .u8 (List.replicate 16 0)).toArray := by rw [hgl]; exact Blk.new w5 _ _
  have lv : ((beside.length : Int)) < 18446744073709551616 := by omega
  have lv2 : ((closed.length : Int)) < 18446744073709551616 := by omega
  have P1 := Lib.hid (putWord64_any gl 25 (List.replicate 16 0) 0 8 16 (beside.length : Int) _ bl0 (by omega) (by omega) (by omega) (by omega) (by simp))
  have hga5 : ga < gl := by omega
  have hgw5 : w.heap.size + 1 + 1 < gl := by omega
  have AUa := Lib.hid (AU5.out.below (show Below w5.heap.size w5 (w5.alloc (.cells (IV .u8 (List.replicate 16 0)).toArray 25)) from (Below.refl _ _).alloc (Nat.le_refl _) _) hg5)
  have RKa := Lib.hid (RK5.out.alloc (.cells (IV .u8 (List.replicate 16 0)).toArray 25))
  have BLa := Lib.hid (BL5.out.alloc s5 (.cells (IV .u8 (List.replicate 16 0)).toArray 25))
  have sa : w.heap.size ≤ (w5.alloc (.cells (IV .u8 (List.replicate 16 0)).toArray 25)).heap.size := by simp; omega
  rw [← hgl] at y1 y2 y3 ⊢
  clear bl0 hgl AU5 RK5 BL5
  refine P1.out.mono ?_
  rintro e w6 ⟨rfl, bl6, g6⟩
  obtain ⟨L1, hL1⟩ : ∃ L, L = put8 (List.replicate 16 0) 0 (beside.length : Int) := ⟨_, rfl⟩
  rw [← hL1] at bl6
  have l1 : L1.length = 16 := by rw [hL1, put8_length _ _ _ (by simp)]; simp
  have HL1 := Lib.hid hL1
  have P2 := Lib.hid (putWord64_any gl 25 L1 8 8 8 (closed.length : Int) w6 bl6 (by omega) (by omega) (by omega) (by omega) (by omega))
  have au6 : Au w6 ga a2 f0 f1 z0 z1 := by
    obtain ⟨t0, t1, t2, k, r⟩ := AUa.out.words
    exact ⟨t0, t1, t2, k.grown g6 (by intro h; injection h; omega), r⟩
  have AU6 := Lib.hid au6
  have RK6 := Lib.hid (RKa.out.grown g6 (by intro h; injection h; omega))
  have BL6 := Lib.hid (grown_below BLa.out g6 sa (by omega))
  have s6 : w.heap.size ≤ w6.heap.size := BL6.out.size
  clear bl6 g6 au6 AUa RKa BLa P1 y1 hL1 sa
  go_wp2_with fail
  refine P2.out.mono ?_
  rintro e w7 ⟨rfl, bl7, g7⟩
  obtain ⟨L2, hL2⟩ : ∃ L, L = put8 L1 8 (closed.length : Int) := ⟨_, rfl⟩
  rw [← hL2] at bl7
  have l2 : L2.length = 16 := by rw [hL2, put8_length _ _ _ (by omega)]; exact l1
  have HL2 := Lib.hid hL2
  have au7 : Au w7 ga a2 f0 f1 z0 z1 := by
    obtain ⟨t0, t1, t2, k, r⟩ := AU6.out.words
    exact ⟨t0, t1, t2, k.grown g7 (by intro h; injection h; omega), r⟩
  have hg7 : ga < w7.heap.size := by obtain ⟨_, _, _, k, _⟩ := au7.words; exact k.lt
  have C3 := Lib.hid (write_all ga a2 f0 f1 z0 z1 16 (some ⟨gl, 0, none⟩) L2 w7 au7 bl7.rd (fun a e _ => by injection e with e; subst e; exact Nat.ne_of_gt hga5)
      (by rw [hL2, HL1.out]; exact put8_bytes (put8_bytes (zeros_bytes _) _ _) _ _) (by omega) (by omega) h3 h4)
  rw [l2] at C3
  have RK7 := Lib.hid (RK6.out.grown g7 (by intro h; injection h; omega))
  have BL7 := Lib.hid (grown_below BL6.out g7 s6 (by omega))
  have s7 : w.heap.size ≤ w7.heap.size := BL7.out.size
  clear bl7 g7 au7 AU6 RK6 BL6 P2 y2 hL2 l1 l2
  go_wp2_with fail
  refine C3.out.mono ?_
  rintro e w8 ⟨rfl, au8, g8⟩
  have C4 := Lib.hid (tag_any ga _ f0 f1 z0 z1 w8 au8 hz.1 hz.2)
  have RK8 := Lib.hid (RK7.out.grown g8 (by intro h; injection h; omega))
  have BL8 := Lib.hid (grown_below BL7.out g8 s7 (by omega))
  have s8 : w.heap.size ≤ w8.heap.size := BL8.out.size
  have hfin : (IV .u8 (tg (absorb (f0 + f1 * 18446744073709551616) a2 L2 % 1361129467683753853853498429727072845819 % 340282366920938463463374607431768211456 + (z0 + z1 * 18446744073709551616)))).toArray = OUT := by
    rw [HOUT.out, HL2.out, HL1.out, HA2.out, HA1.out, HF.out.1.1, HF.out.1.2, HF.out.2.1, HF.out.2.2, HO.out]
    rfl
  have HFI := Lib.hid hfin
  clear au8 g8 RK7 BL7 C3 y3 hfin
  have SOUT := Lib.hid (show OUT.size = 16 by rw [HOUT.out]; simp [IV, sealT_length])
  have AOUT := Lib.hid (show OUT.all (·.oneCell') = true by rw [HOUT.out]; simp [IV, Value.oneCell'])
  go_wp2_with fail
  refine C4.out.mono ?_
  rintro e w9 ⟨rfl, b9⟩
  rw [HFI.out]
  have RK9 := Lib.hid (RK8.out.below b9 RK8.out.lt)
  have BL9 := Lib.hid (BL8.out.trans (b9.mono s8))
  clear b9
  go_wp2_with (refine wpList_store_row rfl 25 _ _ rfl (w.heap.size + 1 + 1) OUT rfl rfl 25 _ RK9.out (by rw [SOUT.out]; exact I16.out) (by rw [SOUT.out]; rfl) AOUT.out ?_)
  refine bodyPost_ret (v := .agg OUT) (results_cell_row rfl _ _ (w.heap.size + 1 + 1) 25 _ (0, 0) _ rfl (Blk.row RK9.out _) Try.underlying25 rfl (by rw [SOUT.out]; exact I16.out)) rfl ⟨rfl, ?_⟩
  exact below_setRow BL9.out (by omega) _
end Go.Proofs.Ytpedajjmbdjfiaa
