/-
  frame.read of a Stream or a Datagram that goes up to the end.
-/
import Derived.Test.YtfimngmpkckcdaaDoorFrameO
namespace Go.Proofs.YtfimngmpkckcdaaDoor
open Go.RowKit
set_option linter.unusedVariables false
theorem Rdr.blk2 {w : World} {g B : Nat} {p : List Int} {e : Int} (h : Rdr w g B p e) : Blk w g 68 #[.slice h.sl.choose p.length h.sl.choose_spec.choose, .int .i64 e] := h.sl.choose_spec.choose_spec.1
theorem fitting_E (k t : Int) (fin : Bool) (hk : KE k t fin) (N1 : Int) (la : Nat) (D : Option Addr) (d : Nat) (w : World) (hl : la ≤ 1000) : Calls Tryd.prog 33 #[FV k N1 0 0 0 fin D la d none 0 0 none 0 0] w fun r w' => r = .returned (.bool true) ∧ Below w.heap.size w w' := by
  unfold FV
  have hw : IntKind.u64.wrap (la : Int) = (la : Int) := IntWalk.u64_in _ (by omega)
  have hd : decide ((la : Int) ≤ 4611686018427387903) = true := by simp; omega
  rcases hk.ways with ⟨rfl, rfl, rfl⟩ | ⟨rfl, rfl, rfl⟩ | ⟨rfl, rfl, rfl⟩
  all_goals (
    go_enter Tryd.func33, Tryd.ntmps33
    go_wp2_with fail
    go_ret
    exact ⟨rfl, (Below.refl _ _).alloc (Nat.le_refl _) _⟩)
theorem set_E (k t : Int) (fin : Bool) (hk : KE k t fin) (N1 : Int) (la : Nat) (h48 : k = 48 → N1 = 0) : bits .andNot .u8 (setI N1 0 0 0 fin la 0 0) (foI k) = 0 := by
  unfold setI orB
  rcases hk.ways with ⟨rfl, rfl, rfl⟩ | ⟨rfl, rfl, rfl⟩ | ⟨rfl, rfl, rfl⟩
  · by_cases h1 : N1 = 0 <;> by_cases h2 : 0 < la <;> simp [h1, h2] <;> decide
  · by_cases h1 : N1 = 0 <;> by_cases h2 : 0 < la <;> simp [h1, h2] <;> decide
  · rw [h48 rfl]
    by_cases h2 : 0 < la <;> simp [h2] <;> decide
theorem valid_E (k t : Int) (fin : Bool) (hk : KE k t fin) (N1 : Int) (la : Nat) (D : Option Addr) (d : Nat) (w : World) (b1 : 0 ≤ N1 ∧ N1 ≤ 4611686018427387903) (hl : la ≤ 1000) (h48 : k = 48 → N1 = 0) :
    Calls Tryd.prog 16 #[FV k N1 0 0 0 fin D la d none 0 0 none 0 0] w fun r w' => r = .returned (.bool true) ∧ Below w.heap.size w w' :=
  valid_yes k N1 0 0 0 fin D la d none 0 0 none 0 0 (setI N1 0 0 0 fin la 0 0) (foI k) w (by omega) (by omega) (by omega) (by rcases hk.ways with ⟨rfl, _⟩ | ⟨rfl, _⟩ | ⟨rfl, _⟩ <;> decide) rfl rfl (set_E k t fin hk N1 la h48) (by omega) (fun W _ => fitting_E k t fin hk N1 la D d W hl)
set_option maxHeartbeats 1600000 in
theorem read_E (k t : Int) (fin : Bool) (hk : KE k t fin) (A : Option Addr) (c : Nat) (p : List Int) (w : World) (hs : Sl w A c p) (hb : Bytes p) (hl : p.length ≤ 70368744177664) (p0 p1 : List Int) (N1 : Int)
    (h0 : numL p 0 = p0 ∧ numE p 0 = 0 ∧ numN p 0 = t) (hv : vleast p = true) (h8 : k = 8 → numL p0 0 = p1 ∧ numE p0 0 = 0 ∧ numN p0 0 = N1) (h48 : k = 48 → p1 = p0 ∧ N1 = 0)
    (b1 : 0 ≤ N1 ∧ N1 ≤ 4611686018427387903) (hp1 : p1.length ≤ 1000) :
    Calls Tryd.prog 13 #[.slice A p.length c] w fun r w' => ∃ D d A' c', r = .returned (.tuple #[.agg (FC k N1 0 0 0 fin D p1.length d none 0 0 none 0 0), .slice A' 0 c', .int .i64 0]) ∧ SlB w' w.heap.size A' c' [] ∧ Own w' w.heap.size D d p1 ∧ Below w.heap.size w w' := by
  have CL := fun W (hb' : Below w.heap.size w W) => least_any A c p W (hs.rd.below hb') hb hs.le hl
  rw [hv] at CL
  have HSS := Lib.hid (And.intro hs (And.intro hb hl))
  have HCL := Lib.hid CL
  have X0 := Lib.hid h0
  have HV := Lib.hid (fun D d W => valid_E k t fin hk N1 p1.length D d W b1 hp1 (fun e => (h48 e).2))
  have HK := Lib.hid (kindOf_E k t fin hk)
  have HKN := Lib.hid (knows_E k t fin hk)
  have HTF := Lib.hid (fun n0 w0 w g B gF h => takeFields_E k t fin hk n0 w0 w g B gF p0 p1 N1 h h8 h48)
  have hk0 : (k == 0) = false := by rcases hk.ways with ⟨rfl, _⟩ | ⟨rfl, _⟩ | ⟨rfl, _⟩ <;> rfl
  have hk2 : (k == 2) = false := by rcases hk.ways with ⟨rfl, _⟩ | ⟨rfl, _⟩ | ⟨rfl, _⟩ <;> rfl
  have hk24 : (k == 24) = false := by rcases hk.ways with ⟨rfl, _⟩ | ⟨rfl, _⟩ | ⟨rfl, _⟩ <;> rfl
  clear CL h0 hs hb hl hv b1 h8 h48 hk
  go_enter Tryd.func13, Tryd.ntmps13
  go_wp2_with fail
  have ba : Below w.heap.size w (w.alloc (.cells #[.int .u64 0, .int .u64 0, .int .u64 0, .int .u64 0, .int .u64 0, .bool false, .slice none 0 0, .slice none 0 0, .slice none 0 0] 28)) := (Below.refl _ _).alloc (Nat.le_refl _) _
  have KR : Blk (w.alloc (.cells #[.int .u64 0, .int .u64 0, .int .u64 0, .int .u64 0, .int .u64 0, .bool false, .slice none 0 0, .slice none 0 0, .slice none 0 0] 28)) w.heap.size 28 (F0 0) := Blk.new w _ _
  obtain ⟨gR, hgR⟩ : ∃ g, g = w.heap.size := ⟨_, rfl⟩
  rw [← hgR] at KR
  rw [show w.heap.size = gR from hgR.symm]
  have hgR' : w.heap.size ≤ gR := by omega
  clear hgR
  generalize (w.alloc (.cells #[.int .u64 0, .int .u64 0, .int .u64 0, .int .u64 0, .int .u64 0, .bool false, .slice none 0 0, .slice none 0 0, .slice none 0 0] 28)) = w1 at ba KR ⊢
  refine (New_0 A p.length c w1).mono ?_
  rintro e w2 ⟨g, rfl, k2, hgw, b2⟩
  have hsz := ba.size
  have r2 : Rdr w2 g w.heap.size p 0 := ⟨⟨A, c, k2, HSS.out.1.le, HSS.out.1.max, (Reads.below HSS.out.1.rd ba).below (b2.mono hsz), HSS.out.1.nil⟩, HSS.out.2.1, by omega, HSS.out.2.2⟩
  have CNum := Number_any g _ p 0 w2 r2
  rw [X0.out.1, X0.out.2.1, X0.out.2.2] at CNum
  have HNum := Lib.hid CNum
  clear r2 k2 CNum
  go_wp2_with fail
  refine HNum.out.mono ?_
  rintro e w3 ⟨rfl, r3, g3⟩
  have b3 := below_gs b2 g3 hgw b2.size
  clear g3 b2 HNum
  go_wp2_with fail
  refine (HK.out _).mono ?_
  rintro e w4 ⟨rfl, rfl⟩
  obtain ⟨gF, hgF⟩ : ∃ g, g = w3.heap.size := ⟨_, rfl⟩
  have bb : Below w3.heap.size w3 (w3.alloc (.cells #[.int .u64 k, .int .u64 0, .int .u64 0, .int .u64 0, .int .u64 0, .bool false, .slice none 0 0, .slice none 0 0, .slice none 0 0] 28)) := (Below.refl _ _).alloc (Nat.le_refl _) _
  have KF : Blk (w3.alloc (.cells #[.int .u64 k, .int .u64 0, .int .u64 0, .int .u64 0, .int .u64 0, .bool false, .slice none 0 0, .slice none 0 0, .slice none 0 0] 28)) gF 28 (F0 k) := by rw [hgF]; exact Blk.new w3 _ _
  have S0 : RF w1.heap.size w1 (w3.alloc (.cells #[.int .u64 k, .int .u64 0, .int .u64 0, .int .u64 0, .int .u64 0, .bool false, .slice none 0 0, .slice none 0 0, .slice none 0 0] 28)) g w.heap.size gF p0 0 (F0 k) :=
    ⟨r3.below bb, KF, b3.trans (bb.mono b3.size), hgw, by have := b3.size; omega, by have := b3.size; omega, Nat.le_refl _⟩
  clear KF r3 b3 bb
  go_wp2_with fail
  rw [show w3.heap.size = gF from hgF.symm]
  clear hgF
  generalize (w3.alloc (.cells #[.int .u64 k, .int .u64 0, .int .u64 0, .int .u64 0, .int .u64 0, .bool false, .slice none 0 0, .slice none 0 0, .slice none 0 0] 28)) = w5 at S0 ⊢
  refine (HKN.out _).mono ?_
  rintro e w6 ⟨rfl, rfl⟩
  have HS := Lib.hid S0
  clear S0
  go_wp2_with fail
  refine (HCL.out _ (ba.trans (HS.out.b.mono ba.size))).mono ?_
  rintro e w6 ⟨rfl, rfl⟩
  go_wp2_with fail
  refine (Must_any g _ p0 0 true _ HS.out.r).mono ?_
  rintro e w6 ⟨rfl, r6, g6⟩
  have S6 := HS.out.rdr r6 g6
  rw [show mustE 0 true = 0 by decide] at S6
  have c0 := S6.f.cell 0
  simp [F0, FC] at c0
  have HS6 := Lib.hid S6
  clear HS r6 g6 S6
  go_wp2_with fail
  refine (HTF.out _ _ _ _ _ _ HS6.out).mono ?_
  rintro e w7 ⟨rfl, D, d, S7, o7⟩
  clear c0 HS6
  have d0 := S7.f.cell 0
  have d1 := S7.f.cell 1
  have d2 := S7.f.cell 2
  have d3 := S7.f.cell 3
  have d4 := S7.f.cell 4
  have d5 := S7.f.cell 5
  have d6 := S7.f.cell 6
  have d7 := S7.f.cell 7
  have d8 := S7.f.cell 8
  simp [FC] at d0 d1 d2 d3 d4 d5 d6 d7 d8
  have HS7 := Lib.hid S7
  have HO7 := Lib.hid o7
  clear S7 o7
  go_wp2_with fail
  refine (HV.out D d _).mono ?_
  rintro e w8 ⟨rfl, b8⟩
  have HS8 := Lib.hid (HS7.out.below b8)
  have HO8 := Lib.hid (HO7.out.below b8)
  clear b8 HS7 HO7 d0 d1 d2 d3 d4 d5 d6 d7 d8
  go_wp2_with fail
  refine (Must_any g _ [] 0 true _ HS8.out.r).mono ?_
  rintro e w9 ⟨rfl, r9, g9⟩
  have S9 := HS8.out.rdr r9 g9
  rw [show mustE 0 true = 0 by decide] at S9
  have KR9 := KR.below S9.b KR.lt
  have O9 := own_gs HO8.out HS8.out.r.blk2 (by decide) g9
  clear r9 g9 HS8 HO8
  have d0 := S9.f.cell 0
  have d1 := S9.f.cell 1
  have d2 := S9.f.cell 2
  have d3 := S9.f.cell 3
  have d4 := S9.f.cell 4
  have d5 := S9.f.cell 5
  have d6 := S9.f.cell 6
  have d7 := S9.f.cell 7
  have d8 := S9.f.cell 8
  simp [FC] at d0 d1 d2 d3 d4 d5 d6 d7 d8
  obtain ⟨A9, c9, k9, sl9⟩ := S9.r.sl
  have h1 := k9.cell 1
  have h0 := k9.cell 0
  have CLf := Left_0 g A9 0 c9 w9.drew k9
  have CEr := Errno_0 g A9 0 c9 w9.drew k9
  have HS9 := Lib.hid S9
  have HKR := Lib.hid (show Blk w9.drew gR 28 (F0 0) from KR9)
  have HSL := Lib.hid (show SlB w9.drew w.heap.size A9 c9 [] from ⟨sl9.rd, sl9.le, sl9.max, sl9.nil⟩)
  have HO9 := Lib.hid (show Own w9.drew w1.heap.size D d p1 from O9)
  have HB9 := Lib.hid (show Below w1.heap.size w1 w9.drew from S9.b.drew)
  have HCLf := Lib.hid CLf
  have HCEr := Lib.hid CEr
  clear CLf CEr S9 KR9 KR k9 sl9 h0 h1 O9
  go_wp2_with fail
  refine wp_region_still_tail 5 (by kernel_rfl) (by kernel_rfl) ?_
  simp only [List.take_succ_cons, List.take_zero, List.drop_succ_cons, List.drop_zero]
  repeat still_step
  still_call (HCLf.out)
  repeat still_step
  still_call (HCEr.out)
  repeat still_step
  refine wpStill_nil ?_
  clear HCLf HCEr d0 d1 d2 d3 d4 d5 d6 d7 d8
  refine wpList_store_row rfl 28 (.tmp 2) (.tmp 47) rfl gR #[.int .u64 k, .int .u64 N1, .int .u64 0, .int .u64 0, .int .u64 0, .bool fin, .slice D p1.length d, .slice none 0 0, .slice none 0 0] rfl rfl 28 _ HKR.out info_frame rfl (by simp [Value.oneCell']) ?_
  go_wp2_with fail
  have hz := ba.size
  have hBB : w1.heap.size ≤ w9.drew.heap.size := HB9.out.size
  have OF := own_gs HO9.out HKR.out (by decide) (grow_row (cs := #[.int .u64 k, .int .u64 N1, .int .u64 0, .int .u64 0, .int .u64 0, .bool fin, .slice D p1.length d, .slice none 0 0, .slice none 0 0]))
  refine bodyPost_ret (results_row_tmp2 rfl _ _ gR 28 _ (0, 0) _ rfl (Blk.setRowP HKR.out) Tryd.underlying28 rfl (by kernel_rfl)) rfl ?_
  refine ⟨D, d, A9, c9, rfl, ?_, OF.base_le hz, ?_⟩
  · exact SlB.grown HSL.out grow_row (Nat.le_trans hz hBB) hgR'
  · exact below_gs (ba.trans (HB9.out.mono hz)) grow_row hgR' (Nat.le_trans hz hBB)
end Go.Proofs.YtfimngmpkckcdaaDoor
