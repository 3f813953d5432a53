/-
  parcel.Open of what Close made.
-/
import Derived.Test.YtjibbegdieiknaaDoorMaAX
namespace Go.Proofs.YtjibbegdieiknaaDoor
open Go.RowKit
set_option maxRecDepth 100000
set_option linter.unusedVariables false
set_option linter.unusedSimpArgs false

theorem results_row_tmp4 {P : Program} {fn : Func} {p u v x y : Tmp} {ty : TypeId} (h : fn.results = #[.cell p ty, .tmp u, .tmp v, .tmp x, .tmp y]) (tmps : Array Value) (w : World) (g : Nat) (t : TypeId) (cs : Array Value) (fr : Nat × Nat) (d : TypeDesc)
    (hp : tmps.getD p undef = .pointer (some ⟨g, 0, none⟩)) (hg : w.heap[g]? = some (.cells cs t fr))
    (hu : P.underlying ty = some d) (hd : (match d with | .struct _ | .array _ _ => true | _ => false) = true) (hi : (P.info? ty).map (·.size) = some cs.size) :
    (results fn tmps).run P w = .ok (.tuple #[.agg cs, tmps.getD u undef, tmps.getD v undef, tmps.getD x undef, tmps.getD y undef]) w := by
  have hl := run_loadVar_row w g t ty cs fr d hg hu hd hi
  have hp' : tmps[p]?.getD undef = .pointer (some ⟨g, 0, none⟩) := by simpa using hp
  simp only [results, h]
  simp [hp', asAddr, hl]
theorem field_bare (g : Nat) (w : World) : (Instr.fieldAt 64 (.pointer (some ⟨g, 0, none⟩)) 0).run Tryd.prog w = .ok (.pointer (some ⟨g, 0, none⟩)) w ∧
    (Instr.fieldAt 64 (.pointer (some ⟨g, 0, none⟩)) 1).run Tryd.prog w = .ok (.pointer (some ⟨g, 5, none⟩)) w ∧
    (Instr.fieldAt 64 (.pointer (some ⟨g, 0, none⟩)) 4).run Tryd.prog w = .ok (.pointer (some ⟨g, 8, none⟩)) w ∧
    (Instr.fieldAt 64 (.pointer (some ⟨g, 0, none⟩)) 5).run Tryd.prog w = .ok (.pointer (some ⟨g, 9, none⟩)) w ∧
    (Instr.fieldAt 25 (.pointer (some ⟨g, 0, none⟩)) 0).run Tryd.prog w = .ok (.pointer (some ⟨g, 0, none⟩)) w := ⟨rfl, rfl, rfl, rfl, rfl⟩

set_option maxHeartbeats 6400000 in
theorem pOpen_ok (key iv mask a b plain rest : List Int) (lg : Bool) (lv : Int) (ph : Bool) (pn : Int) (s : Nat) (A : Option Addr) (c : Nat) (w : World) (q : List Int) (hq : q = closeP lg lv ph a b pn s key iv mask plain ++ rest)
    (hsl : Sl w A c q) (hk : key.length = 32) (hkb : Bytes key) (hi : iv.length = 12) (hib : Bytes iv) (hm : mask.length = 32) (hmb : Bytes mask) (hab : Bytes a) (hbb : Bytes b) (hpn : 0 ≤ pn ∧ pn ≤ 4611686018427387903) (hs : 1 ≤ s ∧ s ≤ 4) (hpb : Bytes plain) (hpl : plain.length ≤ 1000) (h4 : 4 ≤ s + plain.length)
    (hr : rightB lg lv ph a b = true) (hrest : lg = false → rest = []) (hrb : Bytes rest) (hrl : rest.length ≤ 2000)
    (L x W : Int) (sm : Bool) (hL : 0 ≤ L ∧ L < 18446744073709551616) (hSW : SW s W) (hW : W = 256 ^ s) (hx : x = if sm then min L 4611686018427387903 + 1 else 0) (hg : growN x (pn % W) W = pn) :
    Calls Tryd.prog 13 #[KV key iv mask, .slice A q.length c, .int .u64 L, .bool sm] w fun r w' => ∃ A1 c1 A2 c2 A3 c3 A4 c4,
      r = .returned (.tuple #[.agg #[.bool lg, .int .i64 lv, .bool ph, .slice A1 a.length c1, .slice A2 b.length c2], .int .u64 pn, .slice A3 plain.length c3, .slice A4 rest.length c4, .int .i64 0]) ∧
      Own w' w.heap.size A1 c1 a ∧ Own w' w.heap.size A2 c2 b ∧ Own w' w.heap.size A3 c3 plain ∧ Own w' w.heap.size A4 c4 rest ∧ Below w.heap.size w w' := by
  have CU := Lib.hid (fun W (h : Sl W A c q) => unmask_pkt key iv mask a b plain rest lg lv ph pn s A c W q hq h hm hmb hab hbb hpn.1 hs hpb hpl h4 hr hrest hrb hrl)
  obtain ⟨H, hH⟩ : ∃ H, H = headL lg lv ph a b pn s plain.length := ⟨_, rfl⟩
  obtain ⟨S, hS⟩ : ∃ S, S = sealL lg lv ph a b pn s key iv plain := ⟨_, rfl⟩
  have hHb : Bytes H := by rw [hH]; exact headL_bytes hr hab hbb hs hpl
  have hHl : 0 < H.length := by rw [hH, headL_length]; omega
  have hH9 : H.length ≤ 1000 := by rw [hH, headL_length]; have := (atL_le (s := s) (n := plain.length) hr).1; omega
  have hSl : S.length = plain.length + 16 := by rw [hS, sealL_length]
  have hSb : Bytes S := by rw [hS]; exact sealL_bytes hpb _ _ _ _ _ _ _ _ _
  have hf : 0 ≤ firS lg lv ph s ∧ firS lg lv ph s < 256 ∧ bits .and .u8 (firS lg lv ph s) (if lg then 12 else 24) = 0 := by
    obtain ⟨_, _, _, _, _, f6, f7, f8⟩ := fir_facts lg lv ph s 0 hs (by omega) (fun h => by
      rcases right_cases hr with ⟨_, h1, _⟩ | ⟨h1, _⟩
      · exact h1
      · rw [h] at h1; cases h1) (fun h => by
      rcases right_cases hr with ⟨_, _, _, _, h1⟩ | ⟨h1, _⟩
      · exact h1
      · rw [h] at h1; cases h1)
    exact ⟨f7, f8, f6⟩
  obtain ⟨F, hF⟩ : ∃ F, F = firS lg lv ph s := ⟨_, rfl⟩
  rw [← hF] at hf
  have hH0 : H[0]? = some F := by rw [hH, headL, hF]; rfl
  rw [← hH, ← hS, ← hW] at CU
  obtain ⟨NP, hNP⟩ : ∃ NP, NP = nonceP iv pn := ⟨_, rfl⟩
  have hNl : NP.length = 12 := by rw [hNP, nonceP_length, hi]
  have hNb : Bytes NP := by rw [hNP]; exact nonceP_bytes hib pn
  have hSc : S = closeL key NP plain H := by rw [hS, sealL, hNP, hH]
  have e1 : S.take plain.length = encE key NP plain := by rw [hSc, closeL, List.take_left' (encE_length _ _ _)]
  have e2 : S.drop plain.length = sealT key NP (encE key NP plain) H := by rw [hSc, closeL, List.drop_left' (encE_length _ _ _)]
  have CO := Lib.hid (fun (A4 : Option Addr) (c4 : Nat) (A3 : Option Addr) (c3 base : Nat) W (h : Sl W A4 c4 S) (hh : Own W base A3 c3 H) => Open_ok key NP S H plain plain.length A4 A3 c4 c3 W hk hkb hNl hNb h.rd hSb h.le h.max (Rd.of_own hh) hHb hh.cap.1 (by have := hh.cap.2; unfold maxLen at this; omega) hSl (by rw [e1, e2])
    (by rw [e1, encE, xorb_twice hpb (stream_bytes _ _ _ _) (by rw [stream_length]; exact Nat.le_refl _)]) (by omega))
  rw [hSl] at CO
  have CN := Lib.hid (fun W => nonce_any key iv mask pn W hk hi hm hib (by omega))
  have CG := Lib.hid (fun w => grow_any L (pn % W) s W x sm w hSW hL.1 hL.2 (Int.emod_nonneg _ (by have := hSW.pos; omega)) (by have := hSW.pos; have := Int.emod_lt_of_pos pn (show 0 < W by omega); omega) hx)
  rw [hg] at CG
  have CC := Lib.hid (fun (A5 : Option Addr) (c5 : Nat) W (h : Sl W A5 c5 rest) => clone_any A5 c5 rest W h.rd (by omega) (fun e => by
    have h1 := h.nil e
    have h2 := h.le
    exact ⟨List.eq_nil_of_length_eq_zero (by omega), h1⟩))
  obtain ⟨NL, hNL⟩ : ∃ NL, NL = IV .u8 NP := ⟨_, rfl⟩
  obtain ⟨KL, hKL⟩ : ∃ KL, KL = IV .u8 key := ⟨_, rfl⟩
  obtain ⟨MK, hMK⟩ : ∃ MK, MK = IV .u8 mask := ⟨_, rfl⟩
  obtain ⟨QL, hQL⟩ : ∃ QL, QL = IV .u8 (key ++ iv ++ mask) := ⟨_, rfl⟩
  have KR := Lib.hid (fun (w : World) (g : Nat) (b : Blk w g 34 (IV .u8 (key ++ iv ++ mask)).toArray) => keys_range hk hi b)
  rw [← hKL, ← hMK, ← hQL] at KR
  rw [show KV key iv mask = .agg QL.toArray by rw [hQL]; rfl] at CN ⊢
  rw [← hNP, ← hNL] at CN
  rw [← hNL, ← hKL] at CO
  rw [← hMK] at CU
  have SQ := Lib.hid (show QL.length = 76 by rw [hQL, IV_length]; simp; omega)
  have hu32 := Tryd.underlying22
  have huQ := Tryd.underlying34
  have huH := Tryd.underlying25
  have hi32 := Lib.hid (show (Tryd.prog.info? 22).map (·.size) = some KL.length by rw [hKL, IV_length, hk]; kernel_rfl)
  have hiM := Lib.hid (show (Tryd.prog.info? 22).map (·.size) = some MK.length by rw [hMK, IV_length, hm]; kernel_rfl)
  have hiQ := Lib.hid (show (Tryd.prog.info? 34).map (·.size) = some QL.length by rw [SQ.out]; kernel_rfl)
  obtain ⟨ZH, hZH⟩ : ∃ ZH : Array Value, ZH = #[.bool false, .int .i64 0, .bool false, .slice none 0 0, .slice none 0 0] := ⟨_, rfl⟩
  have hzh : ∀ w, (zeroValue 25).run Tryd.prog w = .ok (.agg ZH) w := by rw [hZH]; exact fun w => rfl
  have SZH := Lib.hid (show ZH.size = 5 by rw [hZH]; rfl)
  obtain ⟨ZB, hZB⟩ : ∃ ZB : Array Value, ZB = #[.bool false, .int .i64 0, .bool false, .slice none 0 0, .slice none 0 0, .slice none 0 0, .int .u64 0, .int .i64 0, .slice none 0 0, .slice none 0 0] := ⟨_, rfl⟩
  have hzb : ∀ w, (zeroValue 64).run Tryd.prog w = .ok (.agg ZB) w := by rw [hZB]; exact bare_zero
  have SZB := Lib.hid (show ZB.size = 10 by rw [hZB]; rfl)
  have IB := Lib.hid (show (Tryd.prog.info? 64).map (·.size) = some 10 by kernel_rfl)
  have IH := Lib.hid (show (Tryd.prog.info? 25).map (·.size) = some 5 by kernel_rfl)
  obtain ⟨CT, hCT⟩ : ∃ CT, CT = pn % W := ⟨_, rfl⟩
  rw [← hCT] at CU CG
  have HSL := Lib.hid hsl
  obtain ⟨RV, hRV⟩ : ∃ RV : Int, RV = if lg then 12 else 24 := ⟨_, rfl⟩
  have CRS := Lib.hid (fun w => reserved_any lg w)
  rw [← hRV] at CRS hf
  have HRES := Lib.hid hf.2.2
  have HH0 := Lib.hid hH0
  have HHL := Lib.hid hHl
  have HFR := Lib.hid (show 0 ≤ F ∧ F < 256 from ⟨hf.1, hf.2.1⟩)
  clear hH hS hHb hHl hH9 hSl hSb hRV hf hF hH0 hNP hNl hNb hSc e1 e2 hNL hKL hMK hQL hZH hZB hCT hq hsl hk hkb hi hib hm hmb hab hbb hpn hpb h4 hr hrest hrb hL hSW hW hx hg
  go_enter Tryd.func13, Tryd.ntmps13
  go_upto_region 1 with fail
  obtain ⟨W0, hW0⟩ : ∃ W, W = (w.alloc (.cells QL.toArray 34)).alloc (.cells ZH 25) := ⟨_, rfl⟩
  have bQ := Lib.hid (show Blk W0 w.heap.size 34 QL.toArray by rw [hW0]; exact (Blk.new w _ _).alloc _)
  have bR := Lib.hid (show Blk W0 (w.heap.size + 1) 25 ZH by rw [hW0]; exact blk_second w _ _ _)
  have bL := Lib.hid (show Below w.heap.size w W0 by rw [hW0]; exact ((Below.refl _ _).alloc (Nat.le_refl _) _).alloc (by simp) _)
  show Code.wp _ _ _ _ ((w.alloc (.cells QL.toArray 34)).alloc (.cells ZH 25))
  rw [← hW0]
  obtain ⟨gR, hgR⟩ : ∃ g, g = w.heap.size + 1 := ⟨_, rfl⟩
  rw [← hgR] at bR ⊢
  have HGR := Lib.hid (show w.heap.size < gR by omega)
  have C1 := Lib.hid (CU.out W0 (HSL.out.below bL.out))
  have RM := Lib.hid (KR.out W0 _ bQ.out).2.2
  clear hW0 hgR CU
  go_wp2_with (first
    | refine wpList_load_mid rfl 22 (.tmp 19) rfl w.heap.size 44 rfl MK _ RM.out hu32 rfl hiM.out ?_
    | (go_at_call 29; refine C1.out.mono ?_; rintro r w1 ⟨A1, c1, A2, c2, A3, c3, A4, c4, A5, c5, rfl, o1, o2, o3, s4, s5, b1⟩
       obtain ⟨VB, hVB⟩ : ∃ VB : Array Value, VB = bareV lg lv ph A1 a.length c1 A2 b.length c2 A3 H.length c3 CT s A4 (plain.length + 16) c4 A5 rest.length c5 := ⟨_, rfl⟩
       rw [← hVB]
       have HVB := Lib.hid hVB
       have SVB := Lib.hid (show VB.size = 10 by rw [hVB]; rfl)
       have AVB := Lib.hid (show VB.all (·.oneCell') = true by rw [hVB]; simp [bareV, Value.oneCell'])
       have O1 := Lib.hid o1
       have O2 := Lib.hid o2
       have O3 := Lib.hid o3
       have S4 := Lib.hid s4
       have S5 := Lib.hid s5
       have B1 := Lib.hid b1
       clear o1 o2 o3 s4 s5 b1 hVB)
    | (refine wpList_store_row rfl 64 (.tmp 13) (.tmp 22) rfl w1.heap.size VB rfl rfl 64 ZB (Blk.new w1 _ _) (by rw [SVB.out]; exact IB.out) (by rw [SVB.out, SZB.out]) AVB.out ?_
       have V2 := Lib.hid (Blk.row (Blk.new w1 64 ZB) VB)
       have b2 := Lib.hid (below_setRow ((Below.refl w1.heap.size w1).alloc (Nat.le_refl _) (.cells ZB 64)) (Nat.le_refl _) VB)
       generalize (w1.alloc (.cells ZB 64)).setRow w1.heap.size VB = w2 at V2 b2 ⊢
       have k6 : w2.cell? ⟨w1.heap.size, 6, none⟩ = some (.int .u64 CT) := by have h := V2.out.cell 6; rw [HVB.out] at h; exact h
       have k7 : w2.cell? ⟨w1.heap.size, 7, none⟩ = some (.int .i64 (s : Int)) := by have h := V2.out.cell 7; rw [HVB.out] at h; exact h)
    | (go_at_call 30; refine (CG.out _).mono ?_; rintro r w3 ⟨rfl, rfl⟩))
  obtain ⟨gB, hgB⟩ : ∃ g, g = w1.heap.size := ⟨_, rfl⟩
  rw [← hgB] at V2 k6 k7 ⊢
  obtain ⟨g3, hA3, hg3, hl3⟩ := O3.out.form HHL.out
  subst hA3
  have bw2 : Below W0.heap.size W0 w2 := B1.out.trans (b2.out.mono B1.out.size)
  have BL2 := Lib.hid (show Below w.heap.size w w2 from bL.out.trans (bw2.mono bL.out.size))
  have Q2 := Lib.hid (bQ.out.below bw2 bQ.out.lt)
  have R2 := Lib.hid (bR.out.below bw2 bR.out.lt)
  have P1 := Lib.hid (O1.out.below b2.out)
  have P2 := Lib.hid (O2.out.below b2.out)
  have P3 := Lib.hid (O3.out.below b2.out)
  have P4 := Lib.hid (S4.out.below b2.out)
  have P5 := Lib.hid (S5.out.below b2.out)
  have HGS := Lib.hid (show w.heap.size < gR ∧ gR < W0.heap.size ∧ W0.heap.size ≤ gB ∧ gB < w2.heap.size ∧ W0.heap.size ≤ g3 ∧ g3 < gB from ⟨HGR.out, bR.out.lt, by rw [hgB]; exact B1.out.size, V2.out.lt, hg3, by rw [hgB]; exact hl3⟩)
  clear k6 k7 hgB hg3 hl3 bw2 b2 B1 O1 O2 O3 S4 S5 bQ C1 RM
  -- what holds of every world that grows from here
  have KS := Lib.hid (show ∀ w', Below w2.heap.size w2.drew w' → ((w'.rangeAt w.heap.size 0 KL ∧ w'.rangeAt w.heap.size 0 QL) ∧ w'.cell? ⟨gB, 8, none⟩ = some (.slice A4 (plain.length + 16) c4) ∧ w'.cell? ⟨gB, 5, none⟩ = some (.slice (some ⟨g3, 0, none⟩) H.length c3)) from fun w' hb => by
    have h := (show Blk w2.drew w.heap.size _ _ from Q2.out).below hb Q2.out.lt
    have v := (show Blk w2.drew gB _ _ from V2.out).below hb V2.out.lt
    have v8 := v.cell 8
    have v5 := v.cell 5
    rw [HVB.out] at v8 v5
    exact ⟨⟨(KR.out w' _ h).1, h.range⟩, v8, v5⟩)
  refine wp_region_held_drew (S := fun w' => (w'.rangeAt w.heap.size 0 KL ∧ w'.rangeAt w.heap.size 0 QL) ∧ w'.cell? ⟨gB, 8, none⟩ = some (.slice A4 (plain.length + 16) c4) ∧ w'.cell? ⟨gB, 5, none⟩ = some (.slice (some ⟨g3, 0, none⟩) H.length c3)) (by kernel_rfl) (KS.out _ (Below.refl _ _)) (fun hHeld => ?_)
  refine wpAnyH_take (i := 0) (oi := ⟨_, _, _, _, _, _⟩) rfl (by kernel_rfl) (by kernel_rfl) (by kernel_rfl) (fun _ _ _ h => h) (yields_field (r := .pointer (some ⟨w.heap.size, 0, none⟩)) (by rfl) 34 (.tmp 4) 0 rfl (fun w' => field_key _ w')) hHeld ?_
  simp only [Act.put, List.setIfInBounds_toArray, List.set_cons_zero, List.set_cons_succ]
  refine wpAnyH_take (i := 1) (oi := ⟨_, _, _, _, _, _⟩) rfl (by kernel_rfl) (by kernel_rfl) (by kernel_rfl) (fun _ _ _ h => h) (yieldsIf_load_mid (by rfl) 22 (.tmp 36) rfl w.heap.size 0 rfl KL _ (fun w h => h.1.1) hu32 rfl hi32.out) hHeld ?_
  simp only [Act.put, List.setIfInBounds_toArray, List.set_cons_zero, List.set_cons_succ]
  refine wpAnyH_take (i := 2) (oi := ⟨_, _, _, _, _, _⟩) rfl (by kernel_rfl) (by kernel_rfl) (by kernel_rfl) (fun _ _ _ h => h) (yieldsIf_load_mid (by rfl) 34 (.tmp 4) rfl w.heap.size 0 rfl QL _ (fun w h => h.1.2) huQ rfl hiQ.out) hHeld ?_
  simp only [Act.put, List.setIfInBounds_toArray, List.set_cons_zero, List.set_cons_succ]
  refine wpAnyH_take (i := 3) (oi := ⟨_, _, _, _, _, _⟩) (v := (.int .u64 pn)) rfl (by kernel_rfl) (by kernel_rfl) (by kernel_rfl) (fun _ _ _ h => h) (Or.inl ⟨by rfl, fun w _ => rfl⟩) hHeld ?_
  simp only [Act.put, List.setIfInBounds_toArray, List.set_cons_zero, List.set_cons_succ]
  refine wpAnyH_take (i := 5) (oi := ⟨_, _, _, _, _, _⟩) rfl (by kernel_rfl) (by kernel_rfl) (by kernel_rfl) (fun _ _ _ h => h) (yields_field (r := .pointer (some ⟨gB, 8, none⟩)) (by rfl) 64 (.tmp 13) 4 rfl (fun w' => (field_bare _ w').2.2.1)) hHeld ?_
  simp only [Act.put, List.setIfInBounds_toArray, List.set_cons_zero, List.set_cons_succ]
  refine wpAnyH_take (i := 6) (oi := ⟨_, _, _, _, _, _⟩) (v := (.slice A4 (plain.length + 16) c4)) rfl (by kernel_rfl) (by kernel_rfl) (by kernel_rfl) (fun _ _ _ h => h) (Or.inl ⟨by rfl, fun w' hS => by obtain ⟨_, h2, _⟩ := hS; go_simp⟩) hHeld ?_
  simp only [Act.put, List.setIfInBounds_toArray, List.set_cons_zero, List.set_cons_succ]
  refine wpAnyH_take (i := 7) (oi := ⟨_, _, _, _, _, _⟩) rfl (by kernel_rfl) (by kernel_rfl) (by kernel_rfl) (fun _ _ _ h => h) (yields_field (r := .pointer (some ⟨gB, 5, none⟩)) (by rfl) 64 (.tmp 13) 1 rfl (fun w' => (field_bare _ w').2.1)) hHeld ?_
  simp only [Act.put, List.setIfInBounds_toArray, List.set_cons_zero, List.set_cons_succ]
  refine wpAnyH_take (i := 8) (oi := ⟨_, _, _, _, _, _⟩) (v := (.slice (some ⟨g3, 0, none⟩) H.length c3)) rfl (by kernel_rfl) (by kernel_rfl) (by kernel_rfl) (fun _ _ _ h => h) (Or.inl ⟨by rfl, fun w' hS => by obtain ⟨_, _, h3⟩ := hS; go_simp⟩) hHeld ?_
  simp only [Act.put, List.setIfInBounds_toArray, List.set_cons_zero, List.set_cons_succ]
  refine wpAnyH_ready (rs := [4]) (by kernel_rfl) (by simp) ?_
  refine AllReadyH.cons rfl (fun K hK => ?_) AllReadyH.nil
  go_simp
  refine (CN.out w2.drew).mono ?_
  rintro e5 w5 ⟨rfl, b5⟩
  refine hK.out _ _ (KS.out _ b5) (fun hHeld5 => ?_)
  clear hK K hHeld
  refine wpAnyH_ready (rs := [9]) (by kernel_rfl) (by simp) ?_
  refine AllReadyH.cons rfl (fun K hK => ?_) AllReadyH.nil
  go_simp
  have P35 := ((show Own w2.drew _ _ _ _ from P3.out).below b5)
  have P45 := (P4.out.below (Below.refl w2.heap.size w2).drew).below b5
  refine (CO.out A4 c4 (some ⟨g3, 0, none⟩) c3 W0.heap.size w5 P45 P35).mono ?_
  rintro e6 w6 ⟨A6, c6, rfl, o6, b6⟩
  have b56 := b5.trans (b6.mono b5.size)
  refine hK.out _ _ (KS.out _ b56) (fun hHeld6 => ?_)
  clear hK K hHeld5
  refine wpAnyH_take (i := 10) (oi := ⟨_, _, _, _, _, _⟩) (v := (.tuple #[.slice A6 plain.length c6, .int .i64 0])) rfl (by kernel_rfl) (by kernel_rfl) (by kernel_rfl) (fun _ _ _ h => h) (Or.inl ⟨by rfl, fun w _ => rfl⟩) hHeld6 ?_
  simp only [Act.put, List.setIfInBounds_toArray, List.set_cons_zero, List.set_cons_succ]
  refine wpAnyH_take (i := 11) (oi := ⟨_, _, _, _, _, _⟩) (v := (.slice A6 plain.length c6)) rfl (by kernel_rfl) (by kernel_rfl) (by kernel_rfl) (fun _ _ _ h => h) (Or.inl ⟨by rfl, fun w _ => rfl⟩) hHeld6 ?_
  simp only [Act.put, List.setIfInBounds_toArray, List.set_cons_zero, List.set_cons_succ]
  refine wpAnyH_take (i := 12) (oi := ⟨_, _, _, _, _, _⟩) (v := (.int .i64 0)) rfl (by kernel_rfl) (by kernel_rfl) (by kernel_rfl) (fun _ _ _ h => h) (Or.inl ⟨by rfl, fun w _ => rfl⟩) hHeld6 ?_
  simp only [Act.put, List.setIfInBounds_toArray, List.set_cons_zero, List.set_cons_succ]
  refine wpAnyH_take (i := 13) (oi := ⟨_, _, _, _, _, _⟩) (v := (.slice A6 plain.length c6)) rfl (by kernel_rfl) (by kernel_rfl) (by kernel_rfl) (fun _ _ _ h => h) (Or.inl ⟨by rfl, fun w _ => rfl⟩) hHeld6 ?_
  simp only [Act.put, List.setIfInBounds_toArray, List.set_cons_zero, List.set_cons_succ]
  refine wpAnyH_take (i := 14) (oi := ⟨_, _, _, _, _, _⟩) (v := (.int .i64 0)) rfl (by kernel_rfl) (by kernel_rfl) (by kernel_rfl) (fun _ _ _ h => h) (Or.inl ⟨by rfl, fun w _ => rfl⟩) hHeld6 ?_
  simp only [Act.put, List.setIfInBounds_toArray, List.set_cons_zero, List.set_cons_succ]
  refine wpAnyH_done (by kernel_rfl) ?_ _
  have B6 := Lib.hid (show Below w2.heap.size w2.drew w6 from b56)
  have O6 := Lib.hid (o6.base_le (show w2.heap.size ≤ w5.heap.size from b5.size))
  clear b5 b6 b56 o6 P35 P45 hHeld6 KS
  have BL6 := Lib.hid (show Below w.heap.size w w6 from BL2.out.drew.trans (B6.out.mono BL2.out.size))
  have V6 := Lib.hid ((show Blk w2.drew gB _ _ from V2.out).below B6.out V2.out.lt)
  have R6 := Lib.hid ((show Blk w2.drew gR _ _ from R2.out).below B6.out R2.out.lt)
  have P16 := Lib.hid ((show Own w2.drew _ _ _ _ from P1.out).below B6.out)
  have P26 := Lib.hid ((show Own w2.drew _ _ _ _ from P2.out).below B6.out)
  have P36 := Lib.hid ((show Own w2.drew _ _ _ _ from P3.out).below B6.out)
  have P56 := Lib.hid ((P5.out.below (Below.refl w2.heap.size w2).drew).below B6.out)
  clear V2 R2 P1 P2 P3 P4 P5 BL2 Q2
  go_upto_region 2 with fail
  have KT := Lib.hid (show (w6.drew.cell? ⟨gB, 5, none⟩ = some (.slice (some ⟨g3, 0, none⟩) H.length c3) ∧ w6.drew.cell? ⟨gB, 0, none⟩ = some (.bool lg)) ∧ w6.drew.cell? ⟨g3, 0, none⟩ = some (.int .u8 F) from by
    have v5 := V6.out.cell 5
    have v0 := V6.out.cell 0
    rw [HVB.out] at v5 v0
    have h := (Rd.of_own P36.out).cell HH0.out
    exact ⟨⟨v5, v0⟩, by simpa using h⟩)
  refine wp_region_held_drew (S := fun w' => (w'.cell? ⟨gB, 5, none⟩ = some (.slice (some ⟨g3, 0, none⟩) H.length c3) ∧ w'.cell? ⟨gB, 0, none⟩ = some (.bool lg)) ∧ w'.cell? ⟨g3, 0, none⟩ = some (.int .u8 F)) (by kernel_rfl) KT.out (fun hHeld => ?_)
  refine wpAnyH_take (i := 0) (oi := ⟨_, _, _, _, _, _⟩) rfl (by kernel_rfl) (by kernel_rfl) (by kernel_rfl) (fun _ _ _ h => h) (yields_field (r := .pointer (some ⟨gB, 5, none⟩)) (by rfl) 64 (.tmp 13) 1 rfl (fun w' => (field_bare _ w').2.1)) hHeld ?_
  simp only [Act.put, List.setIfInBounds_toArray, List.set_cons_zero, List.set_cons_succ]
  refine wpAnyH_take (i := 1) (oi := ⟨_, _, _, _, _, _⟩) (v := (.slice (some ⟨g3, 0, none⟩) H.length c3)) rfl (by kernel_rfl) (by kernel_rfl) (by kernel_rfl) (fun _ _ _ h => h) (Or.inl ⟨by rfl, fun w' hS => by obtain ⟨⟨h2, _⟩, _⟩ := hS; go_simp⟩) hHeld ?_
  simp only [Act.put, List.setIfInBounds_toArray, List.set_cons_zero, List.set_cons_succ]
  refine wpAnyH_take (i := 2) (oi := ⟨_, _, _, _, _, _⟩) (v := (.pointer (some ⟨g3, 0, none⟩))) rfl (by kernel_rfl) (by kernel_rfl) (by kernel_rfl) (fun _ _ _ h => h) (Or.inl ⟨by rfl, fun w' hS => by go_simp; intro h; exact absurd h (fun e => by have h1 := HHL.out; rw [e] at h1; exact absurd h1 (by decide))⟩) hHeld ?_
  simp only [Act.put, List.setIfInBounds_toArray, List.set_cons_zero, List.set_cons_succ]
  refine wpAnyH_take (i := 3) (oi := ⟨_, _, _, _, _, _⟩) (v := (.int .u8 F)) rfl (by kernel_rfl) (by kernel_rfl) (by kernel_rfl) (fun _ _ _ h => h) (Or.inl ⟨by rfl, fun w' hS => by obtain ⟨_, h2⟩ := hS; go_simp⟩) hHeld ?_
  simp only [Act.put, List.setIfInBounds_toArray, List.set_cons_zero, List.set_cons_succ]
  refine wpAnyH_take (i := 4) (oi := ⟨_, _, _, _, _, _⟩) rfl (by kernel_rfl) (by kernel_rfl) (by kernel_rfl) (fun _ _ _ h => h) (yields_field (r := .pointer (some ⟨gB, 0, none⟩)) (by rfl) 64 (.tmp 13) 0 rfl (fun w' => (field_bare _ w').1)) hHeld ?_
  simp only [Act.put, List.setIfInBounds_toArray, List.set_cons_zero, List.set_cons_succ]
  refine wpAnyH_take (i := 5) (oi := ⟨_, _, _, _, _, _⟩) rfl (by kernel_rfl) (by kernel_rfl) (by kernel_rfl) (fun _ _ _ h => h) (yields_field (r := .pointer (some ⟨gB, 0, none⟩)) (by rfl) 25 (.tmp 55) 0 rfl (fun w' => (field_bare _ w').2.2.2.2)) hHeld ?_
  simp only [Act.put, List.setIfInBounds_toArray, List.set_cons_zero, List.set_cons_succ]
  refine wpAnyH_take (i := 6) (oi := ⟨_, _, _, _, _, _⟩) (v := (.bool lg)) rfl (by kernel_rfl) (by kernel_rfl) (by kernel_rfl) (fun _ _ _ h => h) (Or.inl ⟨by rfl, fun w' hS => by obtain ⟨⟨_, h2⟩, _⟩ := hS; go_simp⟩) hHeld ?_
  simp only [Act.put, List.setIfInBounds_toArray, List.set_cons_zero, List.set_cons_succ]
  refine wpAnyH_ready (rs := [7]) (by kernel_rfl) (by simp) ?_
  refine AllReadyH.cons rfl (fun K hK => ?_) AllReadyH.nil
  go_simp
  refine (CRS.out w6.drew).mono ?_
  rintro e7 w7 ⟨rfl, rfl⟩
  refine hK.out _ _ KT.out (fun hHeld7 => ?_)
  clear hK K hHeld
  refine wpAnyH_take (i := 8) (oi := ⟨_, _, _, _, _, _⟩) (v := (.int .u8 0)) rfl (by kernel_rfl) (by kernel_rfl) (by kernel_rfl) (fun _ _ _ h => h) (Or.inl ⟨by rfl, fun w' hS => by go_simp; exact HRES.out⟩) hHeld7 ?_
  simp only [Act.put, List.setIfInBounds_toArray, List.set_cons_zero, List.set_cons_succ]
  refine wpAnyH_take (i := 9) (oi := ⟨_, _, _, _, _, _⟩) (v := (.bool false)) rfl (by kernel_rfl) (by kernel_rfl) (by kernel_rfl) (fun _ _ _ h => h) (Or.inl ⟨by rfl, fun w' hS => by go_simp⟩) hHeld7 ?_
  simp only [Act.put, List.setIfInBounds_toArray, List.set_cons_zero, List.set_cons_succ]
  refine wpAnyH_done (by kernel_rfl) ?_ _
  clear hHeld7 KT
  go_upto_region 1 with fail
  obtain ⟨HB, hHB⟩ : ∃ HB : Array Value, HB = #[.bool lg, .int .i64 lv, .bool ph, .slice A1 a.length c1, .slice A2 b.length c2] := ⟨_, rfl⟩
  have SHB := Lib.hid (show HB.size = 5 by rw [hHB]; rfl)
  have SHL := Lib.hid (show HB.toList.length = 5 by rw [hHB]; rfl)
  have AHB := Lib.hid (show HB.all (·.oneCell') = true by rw [hHB]; simp [Value.oneCell'])
  have hiH := Lib.hid (show (Tryd.prog.info? 25).map (·.size) = some HB.toList.length by rw [SHL.out]; exact IH.out)
  have HHB := Lib.hid hHB
  clear hHB
  obtain ⟨w7, hw7⟩ : ∃ w7, w7 = w6.drew.drew := ⟨_, rfl⟩
  have b67 : Below w6.heap.size w6 w7 := by rw [hw7]; exact (Below.refl _ _).drew.drew
  have KS := Lib.hid (show ∀ w', Below w7.heap.size w7 w' → (w'.rangeAt gB 0 HB.toList ∧ w'.cell? ⟨gB, 9, none⟩ = some (.slice A5 rest.length c5)) from fun w' hb => by
    have v := (show Blk w7 gB _ _ by rw [hw7]; exact V6.out).below hb (by rw [hw7]; exact V6.out.lt)
    rw [HVB.out] at v
    refine ⟨fun j u hu => ?_, v.cell 9⟩
    rw [Nat.zero_add, v.cell]
    have hj : j < 5 := by
      have h := (List.getElem?_eq_some_iff.1 hu).1
      rw [SHL.out] at h; exact h
    rw [HHB.out] at hu
    obtain rfl | rfl | rfl | rfl | rfl : j = 0 ∨ j = 1 ∨ j = 2 ∨ j = 3 ∨ j = 4 := by omega
    all_goals exact hu)
  have C7 := Lib.hid (CC.out A5 c5 w7 (P56.out.below b67))
  refine wp_region_held_drew (S := fun w' => w'.rangeAt gB 0 HB.toList ∧ w'.cell? ⟨gB, 9, none⟩ = some (.slice A5 rest.length c5)) (by kernel_rfl) (by rw [← hw7]; exact KS.out _ (Below.refl _ _)) (fun hHeld => ?_)
  rw [← hw7]
  have HW7 := Lib.hid hw7
  clear hw7
  have hHeldx := KS.out w7 (Below.refl _ _)
  refine wpAnyH_take (i := 0) (oi := ⟨_, _, _, _, _, _⟩) rfl (by kernel_rfl) (by kernel_rfl) (by kernel_rfl) (fun _ _ _ h => h) (yields_field (r := .pointer (some ⟨gB, 0, none⟩)) (by rfl) 64 (.tmp 13) 0 rfl (fun w' => (field_bare _ w').1)) hHeldx ?_
  simp only [Act.put, List.setIfInBounds_toArray, List.set_cons_zero, List.set_cons_succ]
  refine wpAnyH_take (i := 1) (oi := ⟨_, _, _, _, _, _⟩) rfl (by kernel_rfl) (by kernel_rfl) (by kernel_rfl) (fun _ _ _ h => h) (yieldsIf_load_mid (by rfl) 25 (.tmp 62) rfl gB 0 rfl HB.toList _ (fun w h => h.1) huH rfl hiH.out) hHeldx ?_
  simp only [Act.put, List.setIfInBounds_toArray, List.set_cons_zero, List.set_cons_succ]
  refine wpAnyH_take (i := 2) (oi := ⟨_, _, _, _, _, _⟩) (v := (.int .u64 pn)) rfl (by kernel_rfl) (by kernel_rfl) (by kernel_rfl) (fun _ _ _ h => h) (Or.inl ⟨by rfl, fun w _ => rfl⟩) hHeldx ?_
  simp only [Act.put, List.setIfInBounds_toArray, List.set_cons_zero, List.set_cons_succ]
  refine wpAnyH_take (i := 3) (oi := ⟨_, _, _, _, _, _⟩) (v := (.slice A6 plain.length c6)) rfl (by kernel_rfl) (by kernel_rfl) (by kernel_rfl) (fun _ _ _ h => h) (Or.inl ⟨by rfl, fun w _ => rfl⟩) hHeldx ?_
  simp only [Act.put, List.setIfInBounds_toArray, List.set_cons_zero, List.set_cons_succ]
  refine wpAnyH_take (i := 4) (oi := ⟨_, _, _, _, _, _⟩) rfl (by kernel_rfl) (by kernel_rfl) (by kernel_rfl) (fun _ _ _ h => h) (yields_field (r := .pointer (some ⟨gB, 9, none⟩)) (by rfl) 64 (.tmp 13) 5 rfl (fun w' => (field_bare _ w').2.2.2.1)) hHeldx ?_
  simp only [Act.put, List.setIfInBounds_toArray, List.set_cons_zero, List.set_cons_succ]
  refine wpAnyH_take (i := 5) (oi := ⟨_, _, _, _, _, _⟩) (v := (.slice A5 rest.length c5)) rfl (by kernel_rfl) (by kernel_rfl) (by kernel_rfl) (fun _ _ _ h => h) (Or.inl ⟨by rfl, fun w' hS => by obtain ⟨_, h2⟩ := hS; go_simp⟩) hHeldx ?_
  simp only [Act.put, List.setIfInBounds_toArray, List.set_cons_zero, List.set_cons_succ]
  refine wpAnyH_ready (rs := [6]) (by kernel_rfl) (by simp) ?_
  refine AllReadyH.cons rfl (fun K hK => ?_) AllReadyH.nil
  go_simp
  refine C7.out.mono ?_
  rintro e8 w8 ⟨A8, c8, rfl, o8, b8⟩
  refine hK.out _ _ (KS.out _ b8) (fun hHeld8 => ?_)
  clear hK K hHeld hHeldx
  have b68 := b67.trans (b8.mono b67.size)
  have R8 : Blk w8 gR 25 ZH := R6.out.below b68 R6.out.lt
  have o16 : Own w8 w.heap.size A1 c1 a := (P16.out.below b68).base_le bL.out.size
  have o26 : Own w8 w.heap.size A2 c2 b := (P26.out.below b68).base_le bL.out.size
  have o66 : Own w8 w.heap.size A6 c6 plain := (O6.out.below b68).base_le (by have h := HGS.out; omega)
  have B8 : Below w.heap.size w w8 := BL6.out.trans (b68.mono BL6.out.size)
  have o86 : Own w8 w.heap.size A8 c8 rest := o8.base_le (BL6.out.trans (b67.mono BL6.out.size)).size
  refine wpAnyH_ready (rs := [7]) (by kernel_rfl) (by simp) ?_
  refine AllReadyH.cons rfl (fun K hK => ?_) AllReadyH.nil
  rw [if_pos (by rfl)]
  refine wp_store_mid 25 (.tmp 8) (.tmp 63) rfl gR 0 HB rfl rfl (Blk.there_ R8 (by rw [SHB.out, SZH.out]; exact Nat.le_refl _)) (by rw [SHB.out]; exact IH.out) AHB.out ?_
  simp only [List.getElem_toArray, List.getElem_cons_succ, List.getElem_cons_zero, Act.put, List.setIfInBounds_toArray, List.set_cons_succ, List.set_cons_zero]
  have hHl : HB.toList.length = ZH.size := by rw [SZH.out]; exact SHL.out
  have g9 : w8.grownBy (w8.setCells gR 0 HB.toList) (some gR) := only_setCells _ _ _ (gb_self _ _)
  have k9 : Blk (w8.setCells gR 0 HB.toList) gR 25 HB := by
    have h := R8.setAll hHl
    rwa [Array.toArray_toList] at h
  have fin := And.intro (Own.grown o16 g9 (fun g cur k' e => by injection e with e; subst e; exact absurd rfl (k'.ne_ R8 (by decide)))) (And.intro (Own.grown o26 g9 (fun g cur k' e => by injection e with e; subst e; exact absurd rfl (k'.ne_ R8 (by decide))))
    (And.intro (Own.grown o66 g9 (fun g cur k' e => by injection e with e; subst e; exact absurd rfl (k'.ne_ R8 (by decide)))) (And.intro (Own.grown o86 g9 (fun g cur k' e => by injection e with e; subst e; exact absurd rfl (k'.ne_ R8 (by decide)))) (grown_below B8 g9 B8.size (by have h := HGR.out; omega)))))
  have hS9 : (w8.setCells gR 0 HB.toList).rangeAt gB 0 HB.toList ∧ (w8.setCells gR 0 HB.toList).cell? ⟨gB, 9, none⟩ = some (.slice A5 rest.length c5) := by
    have h := KS.out _ b8
    have v8 := (show Blk w7 gB _ _ by rw [HW7.out]; exact V6.out).below b8 (by rw [HW7.out]; exact V6.out.lt)
    have v9 := v8.grown g9 (by have h := HGS.out; intro e; injection e; omega)
    refine ⟨World.rangeAt_setCells_apart h.1 _ _ _ (.inl (by have h := HGS.out; omega)), ?_⟩
    have c9 := v9.cell 9
    rw [HVB.out] at c9
    exact c9
  refine hK.out _ _ hS9 (fun hHeld9 => ?_)
  clear hK K hHeld8
  have K9 := Lib.hid k9
  have FIN := Lib.hid fin
  refine wpAnyH_take (i := 8) (oi := ⟨_, _, _, _, _, _⟩) (v := (.int .u64 pn)) rfl (by kernel_rfl) (by kernel_rfl) (by kernel_rfl) (fun _ _ _ h => h) (Or.inl ⟨by rfl, fun w _ => rfl⟩) hHeld9 ?_
  simp only [Act.put, List.setIfInBounds_toArray, List.set_cons_zero, List.set_cons_succ]
  refine wpAnyH_take (i := 9) (oi := ⟨_, _, _, _, _, _⟩) (v := (.slice A6 plain.length c6)) rfl (by kernel_rfl) (by kernel_rfl) (by kernel_rfl) (fun _ _ _ h => h) (Or.inl ⟨by rfl, fun w _ => rfl⟩) hHeld9 ?_
  simp only [Act.put, List.setIfInBounds_toArray, List.set_cons_zero, List.set_cons_succ]
  refine wpAnyH_take (i := 10) (oi := ⟨_, _, _, _, _, _⟩) (v := (.slice A8 rest.length c8)) rfl (by kernel_rfl) (by kernel_rfl) (by kernel_rfl) (fun _ _ _ h => h) (Or.inl ⟨by rfl, fun w _ => rfl⟩) hHeld9 ?_
  simp only [Act.put, List.setIfInBounds_toArray, List.set_cons_zero, List.set_cons_succ]
  refine wpAnyH_take (i := 11) (oi := ⟨_, _, _, _, _, _⟩) (v := (.int .i64 0)) rfl (by kernel_rfl) (by kernel_rfl) (by kernel_rfl) (fun _ _ _ h => h) (Or.inl ⟨by rfl, fun w _ => rfl⟩) hHeld9 ?_
  simp only [Act.put, List.setIfInBounds_toArray, List.set_cons_zero, List.set_cons_succ]
  refine wpAnyH_done (by kernel_rfl) ?_ _
  clear fin k9 g9 o16 o26 o66 o86 R8 B8 b8 o8 b68 b67 KS hS9 hHeld9 HW7
  generalize w8.setCells gR 0 HB.toList = w9 at K9 FIN ⊢
  go_wp2_with fail
  refine bodyPost_ret (results_row_tmp4 rfl _ _ gR 25 HB (0, 0) _ rfl K9.out Tryd.underlying25 rfl (by rw [SHB.out]; exact IH.out)) rfl ?_
  exact ⟨A1, c1, A2, c2, A6, c6, A8, c8, by rw [← HHB.out]; rfl, FIN.out.1, FIN.out.2.1, FIN.out.2.2.1, FIN.out.2.2.2.1, FIN.out.2.2.2.2⟩
end Go.Proofs.YtjibbegdieiknaaDoor

/-
  parcel.Peek of what Close made.
-/
namespace Go.Proofs.YtjibbegdieiknaaDoor
open Go.RowKit
set_option maxRecDepth 100000
set_option linter.unusedVariables false
set_option linter.unusedSimpArgs false

theorem field_bare2 (g : Nat) (w : World) : (Instr.fieldAt 64 (.pointer (some ⟨g, 0, none⟩)) 2).run Tryd.prog w = .ok (.pointer (some ⟨g, 6, none⟩)) w ∧
    (Instr.fieldAt 64 (.pointer (some ⟨g, 0, none⟩)) 3).run Tryd.prog w = .ok (.pointer (some ⟨g, 7, none⟩)) w := ⟨rfl, rfl⟩
set_option maxHeartbeats 6400000 in
theorem Peek_ok (key iv mask a b plain rest : List Int) (lg : Bool) (lv : Int) (ph : Bool) (pn : Int) (s : Nat) (A : Option Addr) (c : Nat) (w : World) (q : List Int) (hq : q = closeP lg lv ph a b pn s key iv mask plain ++ rest)
    (hsl : Sl w A c q) (hm : mask.length = 32) (hmb : Bytes mask) (hab : Bytes a) (hbb : Bytes b) (hpn : 0 ≤ pn) (hs : 1 ≤ s ∧ s ≤ 4) (hpb : Bytes plain) (hpl : plain.length ≤ 1000) (h4 : 4 ≤ s + plain.length)
    (hr : rightB lg lv ph a b = true) (hrest : lg = false → rest = []) (hrb : Bytes rest) (hrl : rest.length ≤ 2000) :
    Calls Tryd.prog 19 #[.slice A q.length c, .agg (IV .u8 mask).toArray] w fun r w' => ∃ A1 c1 A2 c2,
      r = .returned (.tuple #[.agg #[.bool lg, .int .i64 lv, .bool ph, .slice A1 a.length c1, .slice A2 b.length c2], .int .u64 (pn % 256 ^ s), .int .i64 (s : Int), .int .i64 0]) ∧ Below w.heap.size w w' := by
  have CU := Lib.hid (fun W (h : Sl W A c q) => unmask_pkt key iv mask a b plain rest lg lv ph pn s A c W q hq h hm hmb hab hbb hpn hs hpb hpl h4 hr hrest hrb hrl)
  obtain ⟨H, hH⟩ : ∃ H, H = headL lg lv ph a b pn s plain.length := ⟨_, rfl⟩
  obtain ⟨MK, hMK⟩ : ∃ MK, MK = (IV .u8 mask).toArray := ⟨_, rfl⟩
  obtain ⟨CT, hCT⟩ : ∃ CT, CT = pn % 256 ^ s := ⟨_, rfl⟩
  rw [← hH, ← hMK, ← hCT] at CU
  rw [← hMK, ← hCT]
  have SMK := Lib.hid (show MK.size = 32 by rw [hMK]; simp [IV, hm])
  have I32 := Lib.hid (show (Tryd.prog.info? 22).map (·.size) = some MK.size by rw [SMK.out]; kernel_rfl)
  obtain ⟨ZH, hZH⟩ : ∃ ZH : Array Value, ZH = #[.bool false, .int .i64 0, .bool false, .slice none 0 0, .slice none 0 0] := ⟨_, rfl⟩
  have hzh : ∀ w, (zeroValue 25).run Tryd.prog w = .ok (.agg ZH) w := by rw [hZH]; exact fun w => rfl
  have SZH := Lib.hid (show ZH.size = 5 by rw [hZH]; rfl)
  obtain ⟨ZB, hZB⟩ : ∃ ZB : Array Value, ZB = #[.bool false, .int .i64 0, .bool false, .slice none 0 0, .slice none 0 0, .slice none 0 0, .int .u64 0, .int .i64 0, .slice none 0 0, .slice none 0 0] := ⟨_, rfl⟩
  have hzb : ∀ w, (zeroValue 64).run Tryd.prog w = .ok (.agg ZB) w := by rw [hZB]; exact bare_zero
  have SZB := Lib.hid (show ZB.size = 10 by rw [hZB]; rfl)
  have IB := Lib.hid (show (Tryd.prog.info? 64).map (·.size) = some 10 by kernel_rfl)
  have IH := Lib.hid (show (Tryd.prog.info? 25).map (·.size) = some 5 by kernel_rfl)
  have huH := Tryd.underlying25
  have HSL := Lib.hid hsl
  clear hH hMK hCT hZH hZB hq hsl hm hmb hab hbb hpn hpb h4 hr hrest hrb
  go_enter Tryd.func19, Tryd.ntmps19
  go_upto_region 1 with fail
  obtain ⟨W0, hW0⟩ : ∃ W, W = (w.alloc (.cells MK 22)).alloc (.cells ZH 25) := ⟨_, rfl⟩
  have bM := Lib.hid (show Blk W0 w.heap.size 22 MK by rw [hW0]; exact (Blk.new w _ _).alloc _)
  have bR := Lib.hid (show Blk W0 (w.heap.size + 1) 25 ZH by rw [hW0]; exact blk_second w _ _ _)
  have bL := Lib.hid (show Below w.heap.size w W0 by rw [hW0]; exact ((Below.refl _ _).alloc (Nat.le_refl _) _).alloc (by simp) _)
  show Code.wp _ _ _ _ ((w.alloc (.cells MK 22)).alloc (.cells ZH 25))
  rw [← hW0]
  obtain ⟨gR, hgR⟩ : ∃ g, g = w.heap.size + 1 := ⟨_, rfl⟩
  rw [← hgR] at bR ⊢
  have HGR := Lib.hid (show w.heap.size < gR by omega)
  have C1 := Lib.hid (CU.out W0 (HSL.out.below bL.out))
  clear hW0 hgR CU
  go_wp2_with (first
    | refine wpList_load_row rfl 22 (.tmp 3) rfl w.heap.size rfl 22 MK (0, 0) _ bM.out Tryd.underlying22 rfl I32.out ?_
    | (go_at_call 29; refine C1.out.mono ?_; rintro r w1 ⟨A1, c1, A2, c2, A3, c3, A4, c4, A5, c5, rfl, o1, o2, o3, s4, s5, b1⟩
       obtain ⟨VB, hVB⟩ : ∃ VB : Array Value, VB = bareV lg lv ph A1 a.length c1 A2 b.length c2 A3 H.length c3 CT s A4 (plain.length + 16) c4 A5 rest.length c5 := ⟨_, rfl⟩
       rw [← hVB]
       have HVB := Lib.hid hVB
       have SVB := Lib.hid (show VB.size = 10 by rw [hVB]; rfl)
       have AVB := Lib.hid (show VB.all (·.oneCell') = true by rw [hVB]; simp [bareV, Value.oneCell'])
       have B1 := Lib.hid b1
       clear o1 o2 o3 s4 s5 b1 hVB)
    | (refine wpList_store_row rfl 64 (.tmp 8) (.tmp 14) rfl w1.heap.size VB rfl rfl 64 ZB (Blk.new w1 _ _) (by rw [SVB.out]; exact IB.out) (by rw [SVB.out, SZB.out]) AVB.out ?_
       have V2 := Lib.hid (Blk.row (Blk.new w1 64 ZB) VB)
       have b2 := Lib.hid (below_setRow ((Below.refl w1.heap.size w1).alloc (Nat.le_refl _) (.cells ZB 64)) (Nat.le_refl _) VB)
       generalize (w1.alloc (.cells ZB 64)).setRow w1.heap.size VB = w2 at V2 b2 ⊢))
  obtain ⟨gB, hgB⟩ : ∃ g, g = w1.heap.size := ⟨_, rfl⟩
  rw [← hgB] at V2 ⊢
  have bw2 : Below W0.heap.size W0 w2 := B1.out.trans (b2.out.mono B1.out.size)
  have BL2 := Lib.hid (show Below w.heap.size w w2 from bL.out.trans (bw2.mono bL.out.size))
  have R2 := Lib.hid (bR.out.below bw2 bR.out.lt)
  have HGS := Lib.hid (show w.heap.size < gR ∧ gR < W0.heap.size ∧ W0.heap.size ≤ gB from ⟨HGR.out, bR.out.lt, by rw [hgB]; exact B1.out.size⟩)
  clear hgB bw2 b2 B1 C1 bM bR bL
  obtain ⟨HB, hHB⟩ : ∃ HB : Array Value, HB = #[.bool lg, .int .i64 lv, .bool ph, .slice A1 a.length c1, .slice A2 b.length c2] := ⟨_, rfl⟩
  have SHB := Lib.hid (show HB.size = 5 by rw [hHB]; rfl)
  have SHL := Lib.hid (show HB.toList.length = 5 by rw [hHB]; rfl)
  have AHB := Lib.hid (show HB.all (·.oneCell') = true by rw [hHB]; simp [Value.oneCell'])
  have hiH := Lib.hid (show (Tryd.prog.info? 25).map (·.size) = some HB.toList.length by rw [SHL.out]; exact IH.out)
  have HHB := Lib.hid hHB
  clear hHB
  have KT : ∀ w', Blk w' gB 64 VB → ((w'.rangeAt gB 0 HB.toList ∧ w'.cell? ⟨gB, 6, none⟩ = some (.int .u64 CT)) ∧ w'.cell? ⟨gB, 7, none⟩ = some (.int .i64 (s : Int))) := fun w' v => by
    rw [HVB.out] at v
    refine ⟨⟨fun j u hu => ?_, v.cell 6⟩, v.cell 7⟩
    rw [Nat.zero_add, v.cell]
    have hj : j < 5 := by
      have h := (List.getElem?_eq_some_iff.1 hu).1
      rw [SHL.out] at h; exact h
    rw [HHB.out] at hu
    obtain rfl | rfl | rfl | rfl | rfl : j = 0 ∨ j = 1 ∨ j = 2 ∨ j = 3 ∨ j = 4 := by omega
    all_goals exact hu
  have KTH := Lib.hid KT
  clear KT
  refine wp_region_held_drew (S := fun w' => (w'.rangeAt gB 0 HB.toList ∧ w'.cell? ⟨gB, 6, none⟩ = some (.int .u64 CT)) ∧ w'.cell? ⟨gB, 7, none⟩ = some (.int .i64 (s : Int))) (by kernel_rfl) (KTH.out _ V2.out) (fun hHeld => ?_)
  refine wpAnyH_take (i := 0) (oi := ⟨_, _, _, _, _, _⟩) rfl (by kernel_rfl) (by kernel_rfl) (by kernel_rfl) (fun _ _ _ h => h) (yields_field (r := .pointer (some ⟨gB, 0, none⟩)) (by rfl) 64 (.tmp 8) 0 rfl (fun w' => (field_bare _ w').1)) hHeld ?_
  simp only [Act.put, List.setIfInBounds_toArray, List.set_cons_zero, List.set_cons_succ]
  refine wpAnyH_take (i := 1) (oi := ⟨_, _, _, _, _, _⟩) rfl (by kernel_rfl) (by kernel_rfl) (by kernel_rfl) (fun _ _ _ h => h) (yieldsIf_load_mid (by rfl) 25 (.tmp 20) rfl gB 0 rfl HB.toList _ (fun w h => h.1.1) huH rfl hiH.out) hHeld ?_
  simp only [Act.put, List.setIfInBounds_toArray, List.set_cons_zero, List.set_cons_succ]
  refine wpAnyH_take (i := 2) (oi := ⟨_, _, _, _, _, _⟩) rfl (by kernel_rfl) (by kernel_rfl) (by kernel_rfl) (fun _ _ _ h => h) (yields_field (r := .pointer (some ⟨gB, 6, none⟩)) (by rfl) 64 (.tmp 8) 2 rfl (fun w' => (field_bare2 _ w').1)) hHeld ?_
  simp only [Act.put, List.setIfInBounds_toArray, List.set_cons_zero, List.set_cons_succ]
  refine wpAnyH_take (i := 3) (oi := ⟨_, _, _, _, _, _⟩) (v := (.int .u64 CT)) rfl (by kernel_rfl) (by kernel_rfl) (by kernel_rfl) (fun _ _ _ h => h) (Or.inl ⟨by rfl, fun w' hS => by obtain ⟨⟨_, h2⟩, _⟩ := hS; go_simp⟩) hHeld ?_
  simp only [Act.put, List.setIfInBounds_toArray, List.set_cons_zero, List.set_cons_succ]
  refine wpAnyH_take (i := 4) (oi := ⟨_, _, _, _, _, _⟩) rfl (by kernel_rfl) (by kernel_rfl) (by kernel_rfl) (fun _ _ _ h => h) (yields_field (r := .pointer (some ⟨gB, 7, none⟩)) (by rfl) 64 (.tmp 8) 3 rfl (fun w' => (field_bare2 _ w').2)) hHeld ?_
  simp only [Act.put, List.setIfInBounds_toArray, List.set_cons_zero, List.set_cons_succ]
  refine wpAnyH_take (i := 5) (oi := ⟨_, _, _, _, _, _⟩) (v := (.int .i64 (s : Int))) rfl (by kernel_rfl) (by kernel_rfl) (by kernel_rfl) (fun _ _ _ h => h) (Or.inl ⟨by rfl, fun w' hS => by obtain ⟨_, h2⟩ := hS; go_simp⟩) hHeld ?_
  simp only [Act.put, List.setIfInBounds_toArray, List.set_cons_zero, List.set_cons_succ]
  have R3 : Blk w2.drew gR 25 ZH := R2.out
  refine wpAnyH_ready (rs := [6]) (by kernel_rfl) (by simp) ?_
  refine AllReadyH.cons rfl (fun K hK => ?_) AllReadyH.nil
  rw [if_pos (by rfl)]
  refine wp_store_mid 25 (.tmp 4) (.tmp 21) rfl gR 0 HB rfl rfl (Blk.there_ R3 (by rw [SHB.out, SZH.out]; exact Nat.le_refl _)) (by rw [SHB.out]; exact IH.out) AHB.out ?_
  simp only [List.getElem_toArray, List.getElem_cons_succ, List.getElem_cons_zero, Act.put, List.setIfInBounds_toArray, List.set_cons_succ, List.set_cons_zero]
  have hHl : HB.toList.length = ZH.size := by rw [SZH.out]; exact SHL.out
  have g9 : w2.drew.grownBy (w2.drew.setCells gR 0 HB.toList) (some gR) := only_setCells _ _ _ (gb_self _ _)
  have k9 : Blk (w2.drew.setCells gR 0 HB.toList) gR 25 HB := by
    have h := R3.setAll hHl
    rwa [Array.toArray_toList] at h
  have B9 : Below w.heap.size w (w2.drew.setCells gR 0 HB.toList) := grown_below BL2.out.drew g9 BL2.out.size (by have h := HGR.out; omega)
  have v9 := (show Blk w2.drew gB _ _ from V2.out).grown g9 (by have h := HGS.out; intro e; injection e; omega)
  refine hK.out _ _ (KTH.out _ v9) (fun hHeld9 => ?_)
  clear hK K hHeld
  have K9 := Lib.hid k9
  have FIN := Lib.hid B9
  refine wpAnyH_take (i := 7) (oi := ⟨_, _, _, _, _, _⟩) (v := (.int .u64 CT)) rfl (by kernel_rfl) (by kernel_rfl) (by kernel_rfl) (fun _ _ _ h => h) (Or.inl ⟨by rfl, fun w _ => rfl⟩) hHeld9 ?_
  simp only [Act.put, List.setIfInBounds_toArray, List.set_cons_zero, List.set_cons_succ]
  refine wpAnyH_take (i := 8) (oi := ⟨_, _, _, _, _, _⟩) (v := (.int .i64 (s : Int))) rfl (by kernel_rfl) (by kernel_rfl) (by kernel_rfl) (fun _ _ _ h => h) (Or.inl ⟨by rfl, fun w _ => rfl⟩) hHeld9 ?_
  simp only [Act.put, List.setIfInBounds_toArray, List.set_cons_zero, List.set_cons_succ]
  refine wpAnyH_take (i := 9) (oi := ⟨_, _, _, _, _, _⟩) (v := (.int .i64 0)) rfl (by kernel_rfl) (by kernel_rfl) (by kernel_rfl) (fun _ _ _ h => h) (Or.inl ⟨by rfl, fun w _ => rfl⟩) hHeld9 ?_
  simp only [Act.put, List.setIfInBounds_toArray, List.set_cons_zero, List.set_cons_succ]
  refine wpAnyH_done (by kernel_rfl) ?_ _
  clear k9 g9 R3 B9 v9 hHeld9
  generalize w2.drew.setCells gR 0 HB.toList = w9 at K9 FIN ⊢
  go_wp2_with fail
  refine bodyPost_ret (results_row_tmp3 rfl _ _ gR 25 HB (0, 0) _ rfl K9.out Tryd.underlying25 rfl (by rw [SHB.out]; exact IH.out)) rfl ?_
  exact ⟨A1, c1, A2, c2, by rw [← HHB.out]; rfl, FIN.out⟩
end Go.Proofs.YtjibbegdieiknaaDoor
