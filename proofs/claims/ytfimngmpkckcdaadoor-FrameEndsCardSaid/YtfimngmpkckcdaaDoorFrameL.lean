/-
  frame.read of a ResetStream.
-/
import Derived.Test.YtfimngmpkckcdaaDoorFrameK
import Derived.Test.YtfimngmpkckcdaaDoorFrameD
import Derived.StillTailTactics
namespace Go.Proofs.YtfimngmpkckcdaaDoor
open Go.RowKit
set_option linter.unusedVariables false

theorem set_4 (N1 N2 N3 : Int) : bits .andNot .u8 (setI N1 N3 0 N2 false 0 0 0) 7 = 0 := by
  unfold setI orB
  by_cases h1 : N1 = 0 <;> by_cases h2 : N2 = 0 <;> by_cases h3 : N3 = 0 <;> simp [h1, h2, h3] <;> decide
theorem fitting_4 (N1 N2 N3 : Int) (w : World) : Calls Tryd.prog 33 #[FV 4 N1 N3 0 N2 false none 0 0 none 0 0 none 0 0] w fun r w' => r = .returned (.bool true) ∧ Below w.heap.size w w' := by
  unfold FV
  go_enter Tryd.func33, Tryd.ntmps33
  go_wp2_with fail
  go_ret
  exact ⟨rfl, (Below.refl _ _).alloc (Nat.le_refl _) _⟩
theorem valid_4 (N1 N2 N3 : Int) (w : World) (b1 : N1 ≤ 4611686018427387903) (b2 : N2 ≤ 4611686018427387903) (b3 : N3 ≤ 4611686018427387903) :
    Calls Tryd.prog 16 #[FV 4 N1 N3 0 N2 false none 0 0 none 0 0 none 0 0] w fun r w' => r = .returned (.bool true) ∧ Below w.heap.size w w' :=
  valid_yes 4 N1 N3 0 N2 false none 0 0 none 0 0 none 0 0 (setI N1 N3 0 N2 false 0 0 0) 7 w (by omega) (by omega) (by omega) (by decide) rfl (by decide) (set_4 N1 N2 N3) (by omega) (fun W _ => fitting_4 N1 N2 N3 W)
theorem knows_4 (w : World) : Calls Tryd.prog 22 #[.int .u64 4] w fun r w' => r = .returned (.bool true) ∧ w = w' := by
  have C := fieldsOf_any 4
  rw [show knB 4 = true by decide] at C
  have HC := Lib.hid C
  clear C
  go_enter Tryd.func22, Tryd.ntmps22
  go_wp2_with fail
  refine (HC.out _).mono ?_
  rintro r w1 ⟨rfl, rfl⟩
  go_wp2_with fail
  go_ret
  exact ⟨rfl, rfl⟩
theorem results_row_tmp2 {P : Program} {fn : Func} {p u v : Tmp} {ty : TypeId} (h : fn.results = #[.cell p ty, .tmp u, .tmp v]) (tmps : Array Value) (w : World) (g : Nat) (t : TypeId) (cs : Array Value) (fr : Nat × Nat) (d : TypeDesc)
    (hp : tmps.getD p undef = .pointer (some ⟨g, 0, none⟩)) (hg : w.heap[g]? = some (.cells cs t fr))
    (hu : P.underlying ty = some d) (hd : (match d with | .struct _ | .array _ _ => true | _ => false) = true) (hi : (P.info? ty).map (·.size) = some cs.size) :
    (results fn tmps).run P w = .ok (.tuple #[.agg cs, tmps.getD u undef, tmps.getD v undef]) w := by
  have hl := run_loadVar_row w g t ty cs fr d hg hu hd hi
  have hp' : tmps[p]?.getD undef = .pointer (some ⟨g, 0, none⟩) := by simpa using hp
  simp only [results, h]
  simp [hp', asAddr, hl]
theorem New_0 (A : Option Addr) (n c : Nat) (w : World) :
    Calls Tryd.prog 18 #[.slice A n c] w fun r w' => ∃ g, r = .returned (.pointer (some ⟨g, 0, none⟩)) ∧ Blk w' g 68 #[.slice A n c, .int .i64 0] ∧ w.heap.size ≤ g ∧ Below w.heap.size w w' := by
  go_enter Tryd.func18, Tryd.ntmps18
  go_wp2
  go_ret
  exact ⟨_, rfl, Blk.new w _ _, Nat.le_refl _, (Below.refl _ _).alloc (Nat.le_refl _) _⟩
theorem Left_0 (g : Nat) (A : Option Addr) (n c : Nat) (w : World) (k : Blk w g 68 #[.slice A n c, .int .i64 0]) :
    Calls Tryd.prog 28 #[.pointer (some ⟨g, 0, none⟩)] w fun r w' => r = .returned (.slice A n c) ∧ w' = w := by
  have h1 : w.cell? ⟨g, 1, none⟩ = some (.int .i64 0) := k.cell 1
  have h0 : w.cell? ⟨g, 0, none⟩ = some (.slice A n c) := k.cell 0
  clear k
  go_enter Tryd.func28, Tryd.ntmps28
  go_wp2
  go_ret
  exact ⟨rfl, rfl⟩
theorem Errno_0 (g : Nat) (A : Option Addr) (n c : Nat) (w : World) (k : Blk w g 68 #[.slice A n c, .int .i64 0]) :
    Calls Tryd.prog 29 #[.pointer (some ⟨g, 0, none⟩)] w fun r w' => r = .returned (.int .i64 0) ∧ w' = w := by
  have h1 : w.cell? ⟨g, 1, none⟩ = some (.int .i64 0) := k.cell 1
  clear k
  go_enter Tryd.func29, Tryd.ntmps29
  go_wp2
  go_ret
  exact ⟨rfl, rfl⟩
set_option maxHeartbeats 1600000 in
theorem read_4 (A : Option Addr) (c : Nat) (p : List Int) (w : World) (hs : Sl w A c p) (hb : Bytes p) (hl : p.length ≤ 70368744177664) (p0 p1 p2 p3 : List Int) (N1 N2 N3 : Int)
    (h0 : numL p 0 = p0 ∧ numE p 0 = 0 ∧ numN p 0 = 4) (hv : vleast p = true) (h1 : numL p0 0 = p1 ∧ numE p0 0 = 0 ∧ numN p0 0 = N1) (h2 : numL p1 0 = p2 ∧ numE p1 0 = 0 ∧ numN p1 0 = N2) (h3 : numL p2 0 = p3 ∧ numE p2 0 = 0 ∧ numN p2 0 = N3)
    (b1 : N1 ≤ 4611686018427387903) (b2 : N2 ≤ 4611686018427387903) (b3 : N3 ≤ 4611686018427387903) :
    Calls Tryd.prog 13 #[.slice A p.length c] w fun r w' => ∃ A' c', r = .returned (.tuple #[.agg (FC 4 N1 N3 0 N2 false none 0 0 none 0 0 none 0 0), .slice A' p3.length c', .int .i64 0]) ∧ SlB w' w.heap.size A' c' p3 ∧ Below w.heap.size w w' := by
  have CL := fun W (hb' : Below w.heap.size w W) => least_any A c p W (hs.rd.below hb') hb hs.le hl
  rw [hv] at CL
  have HSS := Lib.hid (And.intro hs (And.intro hb hl))
  have HCL := Lib.hid CL
  have X0 := Lib.hid h0
  have X1 := Lib.hid h1
  have X2 := Lib.hid h2
  have X3 := Lib.hid h3
  have HV := Lib.hid (valid_4 N1 N2 N3 · b1 b2 b3)
  have HK := Lib.hid kindOf_4
  have HKN := Lib.hid knows_4
  clear CL h0 h1 h2 h3 hs hb hl hv b1 b2 b3
  go_enter Tryd.func13, Tryd.ntmps13
  go_wp2_with fail
  have ba : Below w.heap.size w (w.alloc (.cells #[.int .u64 0, .int .u64 0, .int .u64 0, .int .u64 0, .int .u64 0, .bool false, .slice none 0 0, .slice none 0 0, .slice none 0 0] 28)) := (Below.refl _ _).alloc (Nat.le_refl _) _
  have KR : Blk (w.alloc (.cells #[.int .u64 0, .int .u64 0, .int .u64 0, .int .u64 0, .int .u64 0, .bool false, .slice none 0 0, .slice none 0 0, .slice none 0 0] 28)) w.heap.size 28 (F0 0) := Blk.new w _ _
  obtain ⟨gR, hgR⟩ : ∃ g, g = w.heap.size := ⟨_, rfl⟩
  rw [← hgR] at KR
  rw [show w.heap.size = gR from hgR.symm]
  have hgR' : w.heap.size ≤ gR := by omega
  clear hgR
  generalize (w.alloc (.cells #[.int .u64 0, .int .u64 0, .int .u64 0, .int .u64 0, .int .u64 0, .bool false, .slice none 0 0, .slice none 0 0, .slice none 0 0] 28)) = w1 at ba KR ⊢
  refine (New_0 A p.length c w1).mono ?_
  rintro e w2 ⟨g, rfl, k2, hgw, b2⟩
  have hsz := ba.size
  have r2 : Rdr w2 g w.heap.size p 0 := ⟨⟨A, c, k2, HSS.out.1.le, HSS.out.1.max, (Reads.below HSS.out.1.rd ba).below (b2.mono hsz), HSS.out.1.nil⟩, HSS.out.2.1, by omega, HSS.out.2.2⟩
  have CNum := Number_any g _ p 0 w2 r2
  rw [X0.out.1, X0.out.2.1, X0.out.2.2] at CNum
  have HNum := Lib.hid CNum
  clear r2 k2 CNum
  go_wp2_with fail
  refine HNum.out.mono ?_
  rintro e w3 ⟨rfl, r3, g3⟩
  have b3 := below_gs b2 g3 hgw b2.size
  clear g3 b2 HNum
  go_wp2_with fail
  refine (HK.out _).mono ?_
  rintro e w4 ⟨rfl, rfl⟩
  obtain ⟨gF, hgF⟩ : ∃ g, g = w3.heap.size := ⟨_, rfl⟩
  have bb : Below w3.heap.size w3 (w3.alloc (.cells #[.int .u64 4, .int .u64 0, .int .u64 0, .int .u64 0, .int .u64 0, .bool false, .slice none 0 0, .slice none 0 0, .slice none 0 0] 28)) := (Below.refl _ _).alloc (Nat.le_refl _) _
  have KF : Blk (w3.alloc (.cells #[.int .u64 4, .int .u64 0, .int .u64 0, .int .u64 0, .int .u64 0, .bool false, .slice none 0 0, .slice none 0 0, .slice none 0 0] 28)) gF 28 (F0 4) := by rw [hgF]; exact Blk.new w3 _ _
  have S0 : RF w1.heap.size w1 (w3.alloc (.cells #[.int .u64 4, .int .u64 0, .int .u64 0, .int .u64 0, .int .u64 0, .bool false, .slice none 0 0, .slice none 0 0, .slice none 0 0] 28)) g w.heap.size gF p0 0 (F0 4) :=
    ⟨r3.below bb, KF, b3.trans (bb.mono b3.size), hgw, by have := b3.size; omega, by have := b3.size; omega, Nat.le_refl _⟩
  clear KF r3 b3 bb
  go_wp2_with fail
  rw [show w3.heap.size = gF from hgF.symm]
  clear hgF
  generalize (w3.alloc (.cells #[.int .u64 4, .int .u64 0, .int .u64 0, .int .u64 0, .int .u64 0, .bool false, .slice none 0 0, .slice none 0 0, .slice none 0 0] 28)) = w5 at S0 ⊢
  refine (HKN.out _).mono ?_
  rintro e w6 ⟨rfl, rfl⟩
  have HS := Lib.hid S0
  clear S0
  go_wp2_with fail
  refine (HCL.out _ (ba.trans (HS.out.b.mono ba.size))).mono ?_
  rintro e w6 ⟨rfl, rfl⟩
  go_wp2_with fail
  refine (Must_any g _ p0 0 true _ HS.out.r).mono ?_
  rintro e w6 ⟨rfl, r6, g6⟩
  have S6 := HS.out.rdr r6 g6
  rw [show mustE 0 true = 0 by decide] at S6
  have c0 := S6.f.cell 0
  simp [F0, FC] at c0
  have HS6 := Lib.hid S6
  clear HS r6 g6 S6
  go_wp2_with fail
  refine (takeFields_4 _ _ _ _ _ _ _ _ HS6.out p1 p2 p3 0 0 0 N1 N2 N3 X1.out X2.out X3.out).mono ?_
  rintro e w7 ⟨rfl, S7⟩
  clear c0 HS6
  have d0 := S7.f.cell 0
  have d1 := S7.f.cell 1
  have d2 := S7.f.cell 2
  have d3 := S7.f.cell 3
  have d4 := S7.f.cell 4
  have d5 := S7.f.cell 5
  have d6 := S7.f.cell 6
  have d7 := S7.f.cell 7
  have d8 := S7.f.cell 8
  simp [FC] at d0 d1 d2 d3 d4 d5 d6 d7 d8
  have HS7 := Lib.hid S7
  clear S7
  go_wp2_with fail
  refine (HV.out _).mono ?_
  rintro e w8 ⟨rfl, b8⟩
  have HS8 := Lib.hid (HS7.out.below b8)
  clear b8 HS7 d0 d1 d2 d3 d4 d5 d6 d7 d8
  go_wp2_with fail
  refine (Must_any g _ p3 0 true _ HS8.out.r).mono ?_
  rintro e w9 ⟨rfl, r9, g9⟩
  have S9 := HS8.out.rdr r9 g9
  rw [show mustE 0 true = 0 by decide] at S9
  have KR9 := KR.below S9.b KR.lt
  clear r9 g9 HS8
  have d0 := S9.f.cell 0
  have d1 := S9.f.cell 1
  have d2 := S9.f.cell 2
  have d3 := S9.f.cell 3
  have d4 := S9.f.cell 4
  have d5 := S9.f.cell 5
  have d6 := S9.f.cell 6
  have d7 := S9.f.cell 7
  have d8 := S9.f.cell 8
  simp [FC] at d0 d1 d2 d3 d4 d5 d6 d7 d8
  obtain ⟨A9, c9, k9, sl9⟩ := S9.r.sl
  have h1 := k9.cell 1
  have h0 := k9.cell 0
  have CLf := Left_0 g A9 p3.length c9 w9.drew k9
  have CEr := Errno_0 g A9 p3.length c9 w9.drew k9
  have HS9 := Lib.hid S9
  have HKR := Lib.hid (show Blk w9.drew gR 28 (F0 0) from KR9)
  have HSL := Lib.hid (show SlB w9.drew w.heap.size A9 c9 p3 from ⟨sl9.rd, sl9.le, sl9.max, sl9.nil⟩)
  have HB9 := Lib.hid (show Below w1.heap.size w1 w9.drew from S9.b.drew)
  have HCLf := Lib.hid CLf
  have HCEr := Lib.hid CEr
  clear CLf CEr S9 KR9 KR k9 sl9 h0 h1
  go_wp2_with fail
  refine wp_region_still_tail 5 (by kernel_rfl) (by kernel_rfl) ?_
  simp only [List.take_succ_cons, List.take_zero, List.drop_succ_cons, List.drop_zero]
  repeat still_step
  still_call (HCLf.out)
  repeat still_step
  still_call (HCEr.out)
  repeat still_step
  refine wpStill_nil ?_
  clear HCLf HCEr d0 d1 d2 d3 d4 d5 d6 d7 d8
  refine wpList_store_row rfl 28 (.tmp 2) (.tmp 47) rfl gR #[.int .u64 4, .int .u64 N1, .int .u64 N3, .int .u64 0, .int .u64 N2, .bool false, .slice none 0 0, .slice none 0 0, .slice none 0 0] rfl rfl 28 _ HKR.out info_frame rfl (by simp [Value.oneCell']) ?_
  go_wp2_with fail
  have hz := ba.size
  have hBB : w1.heap.size ≤ w9.drew.heap.size := HB9.out.size
  refine bodyPost_ret (results_row_tmp2 rfl _ _ gR 28 _ (0, 0) _ rfl (Blk.setRowP HKR.out) Tryd.underlying28 rfl (by kernel_rfl)) rfl ?_
  refine ⟨A9, c9, rfl, ?_, ?_⟩
  · exact SlB.grown HSL.out grow_row (Nat.le_trans hz hBB) hgR'
  · exact below_gs (ba.trans (HB9.out.mono hz)) grow_row hgR' (Nat.le_trans hz hBB)
end Go.Proofs.YtfimngmpkckcdaaDoor
