/-
  ParcelTwo.
-/
import Derived.Test.YtjibbegdieiknaaDoorParQ
import Derived.Test.YtjibbegdieiknaaDoorMaAZ
import Derived.Test.YtjibbegdieiknaaDoorMaAW
import Derived.Deep.DeepCutAuto
namespace Go.Proofs.YtjibbegdieiknaaDoor
open Go.RowKit
set_option maxRecDepth 100000
set_option linter.unusedVariables false
set_option linter.unusedSimpArgs false

theorem only_two {a b c : World} {gp gX : Nat} (h : a.grownBy b (some gp)) (k : b.grownBy c (some gX)) (hx : a.heap.size ≤ gX) : a.grownBy c (some gp) :=
  ⟨k.os.trans h.os, k.tape.trans h.tape, k.output.trans h.output, Nat.le_trans h.size k.size, fun i hi hne => (k.block i (Nat.lt_of_lt_of_le hi h.size) (by intro e; injection e; omega)).trans (h.block i hi hne)⟩
theorem name_b : Bytes [49, 50, 51, 52, 53, 54, 55, 56] := by unfold Bytes; decide
theorem blk_app {w w' : World} {gX base c : Nat} {cs : Array Value} {A : Option Addr} {l : List Int} (k : Blk w gX 25 cs) (o : Own w base A c l) (hg : w.grownBy w' (Value.slice A l.length c).ownBlock) : Blk w' gX 25 cs :=
  k.grown hg (by
    rcases OwnV.row_is (show OwnV w base 5 1 A c l.length (U8 l) from o) with ⟨rfl, _⟩ | ⟨g, cur, rfl, _, hb, _⟩
    · intro h; cases h
    · intro h
      have e : gX = g := by simpa [Value.ownBlock] using h
      subst e
      exact absurd rfl (k.ne_ hb (by decide)))
theorem closeP_bytes {lg : Bool} {lv : Int} {ph : Bool} {a b : List Int} {pn : Int} {s : Nat} {key iv mask plain : List Int} (hr : rightB lg lv ph a b = true) (ha : Bytes a) (hb : Bytes b) (hs : 1 ≤ s ∧ s ≤ 4) (hp : Bytes plain) (hpl : plain.length ≤ 1000) : Bytes (closeP lg lv ph a b pn s key iv mask plain) := by
  have hM : Bytes (maskP lg lv ph a b pn s key iv mask plain) := maskL_bytes _ _
  have hH := headL_bytes (pn := pn) (n := plain.length) hr ha hb hs hpl
  rw [headL] at hH
  rw [closeP, pkt]
  intro x hx
  rcases List.mem_cons.1 hx with rfl | hx
  · exact mF_range (hH _ (by simp)) (getD_byte hM 0)
  · rcases List.mem_append.1 hx with hx | hx
    · rcases List.mem_append.1 hx with hx | hx
      · exact hH x (by simp [hx])
      · exact xorK_bytes (be_bytesP pn s) _ hM _ x hx
    · exact sealL_bytes hp _ _ _ _ _ _ _ _ _ x hx
theorem Own.apartG {w w' : World} {base c : Nat} {A : Option Addr} {l : List Int} {gp : Nat} (o : Own w base A c l) (hg : w.grownBy w' (some gp)) (hne : ∀ g, A = some ⟨g, 0, none⟩ → g ≠ gp) : Own w' base A c l :=
  OwnV.apart (show OwnV w base 5 1 A c l.length (U8 l) from o) hg (by
    intro k hk
    rcases OwnV.row_is (show OwnV w base 5 1 A c l.length (U8 l) from o) with ⟨rfl, _⟩ | ⟨g, cur, rfl, _, hb, _⟩
    · cases hk
    · have e : g = k := by simpa [Value.ownBlock] using hk
      subst e
      intro h; injection h with h; exact hne g rfl h.symm)
theorem Own.lt_of {w : World} {base c : Nat} {A : Option Addr} {l : List Int} (o : Own w base A c l) : ∀ g, A = some ⟨g, 0, none⟩ → base ≤ g ∧ g < w.heap.size := by
  intro k hk
  rcases OwnV.row_is (show OwnV w base 5 1 A c l.length (U8 l) from o) with ⟨rfl, _⟩ | ⟨g, cur, rfl, hb0, hb, _⟩
  · cases hk
  · injection hk with hk
    injection hk with hk
    subst hk
    exact ⟨hb0, Blk.lt hb⟩
theorem grow_here (pn : Int) (h : 0 ≤ pn ∧ pn < 100000) : growN (pn + 1) (pn % 4294967296) 4294967296 = pn := by
  have e1 : pn % 4294967296 = pn := by omega
  have e2 : (pn + 1) % 4294967296 = pn + 1 := by omega
  unfold growN
  simp only [e1, e2]
  rw [if_neg (by omega), if_neg (by omega)]
  omega

set_option maxHeartbeats 25600000 in
theorem ptwo_walk (sa sb : List Int) (Ap : Option Addr) (cp : Nat) (p0 : List Int) (Aq : Option Addr) (cq : Nat) (q0 : List Int) (pn : Int) (w : World) (hE : STab w ∧ KTab w ∧ Tab w) (hk : sa.length = 32) (hkb : Bytes sa) (hk' : sb.length = 32) (hkb' : Bytes sb)
    (pr : Rd w Ap p0) (pb : Bytes p0) (pl : p0.length ≤ cp) (pc : cp ≤ 9223372036854775807) (pn' : Ap = none → cp = 0)
    (qr : Rd w Aq q0) (qb : Bytes q0) (ql : q0.length ≤ cq) (qc : cq ≤ 9223372036854775807) (qn : Aq = none → cq = 0) (wf : (Lit.int .u64 pn).wf = true) :
    Calls Tryd.prog 4 #[.agg (IV .u8 sa).toArray, .agg (IV .u8 sb).toArray, .slice Ap p0.length cp, .slice Aq q0.length cq, .int .u64 pn] w fun e w' => e = .returned (.bool true) ∧ Below w.heap.size w w' := by
  have hpn := u64_range wf
  obtain ⟨hS, hK, hT⟩ := hE
  have C0 := Lib.hid (fun W (h : Below w.heap.size w W) => awake6_any W (hS.below h) (hK.below h))
  obtain ⟨SA, hSA⟩ : ∃ SA, SA = IV .u8 sa := ⟨_, rfl⟩
  obtain ⟨SB, hSB⟩ : ∃ SA, SA = IV .u8 sb := ⟨_, rfl⟩
  have SSA := Lib.hid (show SA.length = 32 by rw [hSA, IV_length, hk])
  have SSB := Lib.hid (show SB.length = 32 by rw [hSB, IV_length, hk'])
  have CDa := Lib.hid (fun W (h : Below w.heap.size w W) => Draw_any sa W hk hkb (hS.below h) (hK.below h))
  have CDb := Lib.hid (fun W (h : Below w.heap.size w W) => Draw_any sb W hk' hkb' (hS.below h) (hK.below h))
  obtain ⟨ka, hka⟩ : ∃ m, m = lab sa nKey 32 := ⟨_, rfl⟩
  obtain ⟨ia, hia⟩ : ∃ m, m = lab sa nIv 12 := ⟨_, rfl⟩
  obtain ⟨ma, hma⟩ : ∃ m, m = lab sa nHp 32 := ⟨_, rfl⟩
  have HKa := Lib.hid (show ka.length = 32 ∧ Bytes ka ∧ ia.length = 12 ∧ Bytes ia ∧ ma.length = 32 ∧ Bytes ma by rw [hka, hia, hma]; exact ⟨lab_length _ _ _, lab_bytes _ _ _, lab_length _ _ _, lab_bytes _ _ _, lab_length _ _ _, lab_bytes _ _ _⟩)
  obtain ⟨KA, hKA⟩ : ∃ K, K = (IV .u8 (ka ++ ia ++ ma)).toArray := ⟨_, rfl⟩
  have SKA := Lib.hid (show KA.size = 76 by have h := HKa.out; rw [hKA]; simp [IV, h.1, h.2.2.1, h.2.2.2.2.1])
  have AKA := Lib.hid (show KA.all (·.oneCell') = true by rw [hKA]; simp [IV, Value.oneCell'])
  have EKa := Lib.hid (show KV ka ia ma = .agg KA by rw [hKA]; rfl)
  rw [← hka, ← hia, ← hma, EKa.out, ← hSA] at CDa
  obtain ⟨kb, hkb⟩ : ∃ m, m = lab sb nKey 32 := ⟨_, rfl⟩
  obtain ⟨ib, hib⟩ : ∃ m, m = lab sb nIv 12 := ⟨_, rfl⟩
  obtain ⟨mb, hmb⟩ : ∃ m, m = lab sb nHp 32 := ⟨_, rfl⟩
  have HKb := Lib.hid (show kb.length = 32 ∧ Bytes kb ∧ ib.length = 12 ∧ Bytes ib ∧ mb.length = 32 ∧ Bytes mb by rw [hkb, hib, hmb]; exact ⟨lab_length _ _ _, lab_bytes _ _ _, lab_length _ _ _, lab_bytes _ _ _, lab_length _ _ _, lab_bytes _ _ _⟩)
  obtain ⟨KB, hKB⟩ : ∃ K, K = (IV .u8 (kb ++ ib ++ mb)).toArray := ⟨_, rfl⟩
  have SKB := Lib.hid (show KB.size = 76 by have h := HKb.out; rw [hKB]; simp [IV, h.1, h.2.2.1, h.2.2.2.2.1])
  have AKB := Lib.hid (show KB.all (·.oneCell') = true by rw [hKB]; simp [IV, Value.oneCell'])
  have EKb := Lib.hid (show KV kb ib mb = .agg KB by rw [hKB]; rfl)
  rw [← hkb, ← hib, ← hmb, EKb.out, ← hSB] at CDb
  rw [← hSA, ← hSB]
  have I32 := Lib.hid (show (Tryd.prog.info? 22).map (·.size) = some 32 by kernel_rfl)
  have I76 := Lib.hid (show (Tryd.prog.info? 34).map (·.size) = some 76 by kernel_rfl)
  have IH := Lib.hid (show (Tryd.prog.info? 25).map (·.size) = some 5 by kernel_rfl)
  have hu32 := Tryd.underlying22
  have huQ := Tryd.underlying34
  have hiA := Lib.hid (show (Tryd.prog.info? 22).map (·.size) = some SA.length by rw [SSA.out]; exact I32.out)
  have hiB := Lib.hid (show (Tryd.prog.info? 22).map (·.size) = some SB.length by rw [SSB.out]; exact I32.out)
  have hiKA := Lib.hid (show (Tryd.prog.info? 34).map (·.size) = some KA.toList.length by rw [Array.length_toList, SKA.out]; exact I76.out)
  obtain ⟨Z, hZ⟩ : ∃ Z, Z = (IV .u8 (List.replicate 76 0)).toArray := ⟨_, rfl⟩
  have hz76 : ∀ w, (zeroValue 34).run Tryd.prog w = .ok (.agg Z) w := by rw [hZ]; exact zero76
  have ZS := Lib.hid (show Z.size = 76 by rw [hZ]; simp [IV])
  have SP := Lib.hid (show Sl w Ap cp p0 from ⟨pr, pl, pc, pn'⟩)
  have SQ := Lib.hid (show Sl w Aq cq q0 from ⟨qr, ql, qc, qn⟩)
  obtain ⟨P, hP⟩ : ∃ P, P = p0.take 200 := ⟨_, rfl⟩
  obtain ⟨Q, hQ⟩ : ∃ Q, Q = q0.take 200 := ⟨_, rfl⟩
  have hPl : P.length ≤ 200 := by rw [hP, List.length_take]; omega
  have hPb : Bytes P := by rw [hP]; exact pb.take 200
  have hQl : Q.length ≤ 200 := by rw [hQ, List.length_take]; omega
  have hQb : Bytes Q := by rw [hQ]; exact qb.take 200
  have CQ1 := Lib.hid (fun W (h : Below w.heap.size w W) => cut_any Ap cp p0 200 W (SP.out.below h).rd (by have := SP.out.le; have := SP.out.max; omega) SP.out.le (by omega) (by omega))
  have CQ2 := Lib.hid (fun W (h : Below w.heap.size w W) => cut_any Aq cq q0 200 W (SQ.out.below h).rd (by have := SQ.out.le; have := SQ.out.max; omega) SQ.out.le (by omega) (by omega))
  rw [show (200 : Int).toNat = 200 from rfl, ← hP] at CQ1
  rw [show (200 : Int).toNat = 200 from rfl, ← hQ] at CQ2
  obtain ⟨pk, hpk⟩ : ∃ x, pn % 100000 = x := ⟨_, rfl⟩
  have hpkr : 0 ≤ pk ∧ pk < 100000 := by omega
  have hs4 : (1 : Nat) ≤ 4 ∧ (4 : Nat) ≤ 4 := by omega
  have hR1 : rightB true 0 false [49, 50, 51, 52, 53, 54, 55, 56] [] = true := by decide
  have hR2 : rightB true 1 false [49, 50, 51, 52, 53, 54, 55, 56] [49, 50, 51, 52, 53, 54, 55, 56] = true := by decide
  obtain ⟨PK1, hPK1⟩ : ∃ X, X = closeP true 0 false [49, 50, 51, 52, 53, 54, 55, 56] [] pk 4 ka ia ma P := ⟨_, rfl⟩
  obtain ⟨PK2, hPK2⟩ : ∃ X, X = closeP true 1 false [49, 50, 51, 52, 53, 54, 55, 56] [49, 50, 51, 52, 53, 54, 55, 56] pk 4 kb ib mb Q := ⟨_, rfl⟩
  have hl1 : PK1.length ≤ 1000 := by
    rw [hPK1, closeP_length]
    have := (atL_le (s := 4) (n := P.length) hR1).1
    omega
  have hl1' : 0 < PK1.length := by rw [hPK1, closeP_length]; omega
  have hl2 : PK2.length ≤ 1000 := by
    rw [hPK2, closeP_length]
    have := (atL_le (s := 4) (n := Q.length) hR2).1
    omega
  have hb2 : Bytes PK2 := by rw [hPK2]; exact closeP_bytes hR2 name_b name_b hs4 hQb (by omega)
  obtain ⟨X, hX⟩ : ∃ X, X = PK1 ++ PK2 := ⟨_, rfl⟩
  have CC1 := Lib.hid (fun g A3 c3 W (h1 : Sl W (some ⟨g, 0, none⟩) 8 [49, 50, 51, 52, 53, 54, 55, 56]) (h2 : Sl W A3 c3 P) (h3 : Tab W) => Close_ok ka ia ma [49, 50, 51, 52, 53, 54, 55, 56] [] P true 0 false (some ⟨g, 0, none⟩) none A3 8 0 c3 pk 4 W HKa.out.1 HKa.out.2.1 HKa.out.2.2.1 HKa.out.2.2.2.1 HKa.out.2.2.2.2.1 HKa.out.2.2.2.2.2 h1 (Sl.none_ _) name_b Bytes.nil (by omega) hs4 h2 hPb (by omega) (by omega) hR1 h3)
  have CC2 := Lib.hid (fun g A3 c3 W (h1 : Sl W (some ⟨g, 0, none⟩) 8 [49, 50, 51, 52, 53, 54, 55, 56]) (h2 : Sl W A3 c3 Q) (h3 : Tab W) => Close_ok kb ib mb [49, 50, 51, 52, 53, 54, 55, 56] [49, 50, 51, 52, 53, 54, 55, 56] Q true 1 false (some ⟨g, 0, none⟩) (some ⟨g, 0, none⟩) A3 8 8 c3 pk 4 W HKb.out.1 HKb.out.2.1 HKb.out.2.2.1 HKb.out.2.2.2.1 HKb.out.2.2.2.2.1 HKb.out.2.2.2.2.2 h1 h1 name_b name_b (by omega) hs4 h2 hQb (by omega) (by omega) hR2 h3)
  rw [← hPK1, EKa.out] at CC1
  rw [← hPK2, EKb.out] at CC2
  unfold HV at CC1 CC2
  rw [show ([49, 50, 51, 52, 53, 54, 55, 56] : List Int).length = 8 from rfl, show ([] : List Int).length = 0 from rfl, show ((4 : Nat) : Int) = 4 from rfl] at CC1
  rw [show ([49, 50, 51, 52, 53, 54, 55, 56] : List Int).length = 8 from rfl, show ((4 : Nat) : Int) = 4 from rfl] at CC2
  have COp := Lib.hid (fun A5 c5 W' (h : Sl W' A5 c5 X) => pOpen_ok ka ia ma [49, 50, 51, 52, 53, 54, 55, 56] [] P PK2 true 0 false pk 4 A5 c5 W' X (by rw [hX, hPK1]) h HKa.out.1 HKa.out.2.1 HKa.out.2.2.1 HKa.out.2.2.2.1 HKa.out.2.2.2.2.1 HKa.out.2.2.2.2.2 name_b Bytes.nil (by omega) hs4 hPb (by omega) (by omega) hR1 (fun h => by cases h) hb2 (by omega) pk (pk + 1) 4294967296 true (by omega) sw4 rfl (by simp; omega) (grow_here pk hpkr))
  have COq := Lib.hid (fun A5 c5 W' (h : Sl W' A5 c5 PK2) => pOpen_ok kb ib mb [49, 50, 51, 52, 53, 54, 55, 56] [49, 50, 51, 52, 53, 54, 55, 56] Q [] true 1 false pk 4 A5 c5 W' PK2 (by rw [List.append_nil, hPK2]) h HKb.out.1 HKb.out.2.1 HKb.out.2.2.1 HKb.out.2.2.2.1 HKb.out.2.2.2.2.1 HKb.out.2.2.2.2.2 name_b name_b (by omega) hs4 hQb (by omega) (by omega) hR2 (fun h => by cases h) Bytes.nil (by decide) pk (pk + 1) 4294967296 true (by omega) sw4 rfl (by simp; omega) (grow_here pk hpkr))
  rw [EKa.out] at COp
  rw [EKb.out] at COq
  have LX := Lib.hid (show PK1.length + PK2.length ≤ 2000 by omega)
  have LXX := Lib.hid (show PK1.length + PK2.length = X.length by rw [hX, List.length_append])
  have HX0 := Lib.hid (show PK1 ++ PK2 = X from hX.symm)
  have HL1 := Lib.hid hl1'
  have CSp := Lib.hid (fun (A1 A2 : Option Addr) (c1 c2 : Nat) W' (h1 : Rd W' A1 P) (h2 : Rd W' A2 P) => same_any A1 A2 c1 c2 P P W' h1 h2 hPb hPb)
  have CSq := Lib.hid (fun (A1 A2 : Option Addr) (c1 c2 : Nat) W' (h1 : Rd W' A1 Q) (h2 : Rd W' A2 Q) => same_any A1 A2 c1 c2 Q Q W' h1 h2 hQb hQb)
  have CSr := Lib.hid (fun (A1 A2 : Option Addr) (c1 c2 : Nat) W' (h1 : Rd W' A1 PK2) (h2 : Rd W' A2 PK2) => same_any A1 A2 c1 c2 PK2 PK2 W' h1 h2 hb2 hb2)
  rw [sameB_refl] at CSp CSq CSr
  have HT := Lib.hid hT
  have N0 := Lib.hid (show Blk ((w.alloc (.cells SA.toArray 22)).alloc (.cells SB.toArray 22)) w.heap.size 22 SA.toArray from (Blk.new w _ _).alloc _)
  have N1 := Lib.hid (show Blk ((w.alloc (.cells SA.toArray 22)).alloc (.cells SB.toArray 22)) (w.heap.size + 1) 22 SB.toArray from blk_second w _ _ _)
  have b0 := Lib.hid (show Below w.heap.size w ((w.alloc (.cells SA.toArray 22)).alloc (.cells SB.toArray 22)) from ((Below.refl _ _).alloc (Nat.le_refl _) _).alloc (by simp) _)
  have kc := fun (w : World) (C : Array Value) (n c g : Nat) (hg : g = w.heap.size) => Joins.run_convert_bytes_const_at (P := Tryd.prog) w 23 5 C n c g hg Tryd.underlying23 Tryd.underlying5
  clear hSA hSB hka hia hma hkb hib hmb hKA hKB hZ hP hQ hPb hQb hR1 hR2 hPK1 hPK2 hl1 hl1' hl2 hb2 hX hS hK hT hk hk' hkb' pr pb pl pc pn' qr qb ql qc qn wf hs4
  go_enter Tryd.func4, Tryd.ntmps4
  go_upto_region 5 with (first
    | (go_at_call 6; refine (C0.out _ b0.out).mono ?_; rintro e w1 ⟨rfl, b1'⟩
       have B1 := Lib.hid (b0.out.trans (b1'.mono b0.out.size))
       have S1 := Lib.hid (N0.out.below b1' N0.out.lt)
       have T1 := Lib.hid (N1.out.below b1' N1.out.lt)
       have C1 := Lib.hid (CQ1.out w1 B1.out)
       clear b1')
    | (go_at_call 8; (with_reducible refine C1.out.mono ?_); rintro e w2 ⟨A3, c3, rfl, o2, b2⟩
       have BL2 := Lib.hid (B1.out.trans (b2.mono B1.out.size))
       have S2 := Lib.hid (S1.out.below b2 S1.out.lt)
       have T2 := Lib.hid (T1.out.below b2 T1.out.lt)
       have OP2 := Lib.hid (o2.base_le B1.out.size)
       have C2 := Lib.hid (CQ2.out w2 BL2.out)
       clear o2 b2)
    | (go_at_call 8; (with_reducible refine C2.out.mono ?_); rintro e w3 ⟨A4, c4, rfl, o3, b3⟩
       have BL3 := Lib.hid (BL2.out.trans (b3.mono BL2.out.size))
       have S3 := Lib.hid (S2.out.below b3 S2.out.lt)
       have T3 := Lib.hid (T2.out.below b3 T2.out.lt)
       have OP3 := Lib.hid (OP2.out.below b3)
       have OQ3 := Lib.hid (o3.base_le BL2.out.size)
       clear o3 b3))
  obtain ⟨w5, hw5⟩ : ∃ W, W = w3.alloc (.cells (IV .u8 [49, 50, 51, 52, 53, 54, 55, 56]).toArray 5 (8, 9)) := ⟨_, rfl⟩
  have b35 : Below w3.heap.size w3 w5 := by rw [hw5]; exact (Below.refl _ _).alloc (Nat.le_refl _) _
  obtain ⟨gN, hgN⟩ : ∃ g, g = w3.heap.size := ⟨_, rfl⟩
  have SN5 := Lib.hid (show Sl w5 (some ⟨gN, 0, none⟩) 8 [49, 50, 51, 52, 53, 54, 55, 56] by rw [hw5, hgN]; exact lit_sl [49, 50, 51, 52, 53, 54, 55, 56] (8, 9) (by decide) rfl rfl)
  have BL5 := Lib.hid (BL3.out.trans (b35.mono BL3.out.size))
  have S5 := Lib.hid (S3.out.below b35 S3.out.lt)
  have T5 := Lib.hid (T3.out.below b35 T3.out.lt)
  have OP5 := Lib.hid (OP3.out.below b35)
  have OQ5 := Lib.hid (OQ3.out.below b35)
  show Code.wp _ _ _ _ (w3.alloc (.cells (IV .u8 [49, 50, 51, 52, 53, 54, 55, 56]).toArray 5 (8, 9)))
  rw [← hw5, ← hgN, hpk]
  clear hpk hw5 hgN b35 BL3 S3 T3 OP3 OQ3 C2 BL2 S2 T2 OP2 C1 B1 S1 T1 b0 N0 N1 C0 CQ1 CQ2
  go_cut [12, 13] (fun p1 p2 wx => ∃ g1 g2, p1 = .pointer (some ⟨g1, 0, none⟩) ∧ p2 = .pointer (some ⟨g2, 0, none⟩) ∧ Hid (Blk wx g1 34 KA ∧ Blk wx g2 34 KB ∧ Below w5.heap.size w5 wx))
  case first =>
    obtain ⟨u0, hu0⟩ : ∃ u0, u0 = w5.drew := ⟨_, rfl⟩
    have bu0 : Below w5.heap.size w5 u0 := by rw [hu0]; exact (Below.refl _ _).drew
    refine wp_region_held_drew (S := fun w' => Below w5.heap.size w5 w') (by kernel_rfl) (by rw [← hu0]; exact bu0) (fun _ => ?_)
    rw [← hu0]
    clear hu0
    refine wpAnyH_take (i := 0) (oi := ⟨_, _, _, _, _, _⟩) rfl (by kernel_rfl) (by kernel_rfl) (by kernel_rfl) (fun _ _ _ h => h) (yieldsIf_load_mid (by rfl) 22 (.tmp 5) rfl w.heap.size 0 rfl SA _ (fun w h => (S5.out.below h S5.out.lt).range) hu32 rfl hiA.out) bu0 ?_
    simp only [Act.put, List.setIfInBounds_toArray, List.set_cons_zero, List.set_cons_succ]
    refine wpAnyH_take (i := 2) (oi := ⟨_, _, _, _, _, _⟩) rfl (by kernel_rfl) (by kernel_rfl) (by kernel_rfl) (fun _ _ _ h => h) (yieldsIf_load_mid (by rfl) 22 (.tmp 6) rfl (w.heap.size + 1) 0 rfl SB _ (fun w h => (T5.out.below h T5.out.lt).range) hu32 rfl hiB.out) bu0 ?_
    simp only [Act.put, List.setIfInBounds_toArray, List.set_cons_zero, List.set_cons_succ]
    refine wpAnyH_ready (rs := [1, 4, 5]) (by kernel_rfl) (by simp) ?_
    refine AllReadyH.cons rfl (fun K hK => ?_) (AllReadyH.cons rfl (fun K hK => ?_) (AllReadyH.cons rfl (fun K hK => ?_) AllReadyH.nil))
    · go_simp
      refine (CDa.out u0 (BL5.out.trans (bu0.mono BL5.out.size))).mono ?_
      rintro e u1 ⟨rfl, bs⟩
      have bu1 : Below w5.heap.size w5 u1 := bu0.trans (bs.mono bu0.size)
      refine hK.out _ _ bu1 (fun _ => ?_)
      clear hK K bs
      refine wpAnyH_ready (rs := [3, 4, 5]) (by kernel_rfl) (by simp) ?_
      refine AllReadyH.cons rfl (fun K hK => ?_) (AllReadyH.cons rfl (fun K hK => ?_) (AllReadyH.cons rfl (fun K hK => ?_) AllReadyH.nil))
      · go_simp
        refine (CDb.out u1 (BL5.out.trans (bu1.mono BL5.out.size))).mono ?_
        rintro e u2 ⟨rfl, bs⟩
        have bu2 : Below w5.heap.size w5 u2 := bu1.trans (bs.mono bu1.size)
        refine hK.out _ _ bu2 (fun _ => ?_)
        clear hK K bs
        refine wpAnyH_ready (rs := [4, 5]) (by kernel_rfl) (by simp) ?_
        refine AllReadyH.cons rfl (fun K hK => ?_) (AllReadyH.cons rfl (fun K hK => ?_) AllReadyH.nil)
        · go_simp
          have bu3 : Below w5.heap.size w5 (u2.alloc (.cells Z 34)) := bu2.alloc bu2.size _
          have kAu3 : Blk (u2.alloc (.cells Z 34)) u2.heap.size 34 Z := Blk.new _ _ _
          have hgA := bu2.size
          refine hK.out _ _ bu3 (fun _ => ?_)
          clear hK K
          obtain ⟨gA, hgx⟩ : ∃ g, g = u2.heap.size := ⟨_, rfl⟩
          rw [← hgx] at kAu3 hgA ⊢
          generalize u2.alloc (.cells Z 34) = u3 at bu3 kAu3 ⊢
          clear hgx
          refine wpAnyH_ready (rs := [5]) (by kernel_rfl) (by simp) ?_
          refine AllReadyH.cons rfl (fun K hK => ?_) AllReadyH.nil
          · go_simp
            have bu4 : Below w5.heap.size w5 (u3.alloc (.cells Z 34)) := bu3.alloc bu3.size _
            have kBu4 : Blk (u3.alloc (.cells Z 34)) u3.heap.size 34 Z := Blk.new _ _ _
            have kAu4 := kAu3.alloc (.cells Z 34)
            have hlt := kAu3.lt
            have hgB := bu3.size
            refine hK.out _ _ bu4 (fun _ => ?_)
            clear hK K
            obtain ⟨gB, hgx⟩ : ∃ g, g = u3.heap.size := ⟨_, rfl⟩
            rw [← hgx] at kBu4 hgB ⊢
            rw [← hgx] at hlt
            have hne : gA ≠ gB := by omega
            generalize u3.alloc (.cells Z 34) = u4 at bu4 kBu4 kAu4 ⊢
            clear hgx
            refine wpAnyH_ready (rs := [6]) (by kernel_rfl) (by simp) ?_
            refine AllReadyH.cons rfl (fun K hK => ?_) AllReadyH.nil
            rw [if_pos (by rfl)]
            refine wp_store_mid 34 (.tmp 12) (.tmp 39) rfl gA 0 KA rfl rfl (Blk.there_ kAu4 (by rw [SKA.out, ZS.out]; exact Nat.le_refl _)) (by rw [SKA.out]; exact I76.out) AKA.out ?_
            simp only [List.getElem_toArray, List.getElem_cons_succ, List.getElem_cons_zero, Act.put, List.setIfInBounds_toArray, List.set_cons_succ, List.set_cons_zero]
            have hA1 : KA.toList.length = Z.size := by rw [ZS.out, Array.length_toList]; exact SKA.out
            have gs : u4.grownBy (u4.setCells gA 0 KA.toList) (some gA) := only_setCells _ _ _ (gb_self _ _)
            have kA1 : Blk (u4.setCells gA 0 KA.toList) gA 34 KA := by have h := kAu4.setAll hA1; rwa [Array.toArray_toList] at h
            have kB1 : Blk (u4.setCells gA 0 KA.toList) gB 34 Z := kBu4.grown gs (by intro h; injection h with h; exact hne h.symm)
            have b1 : Below w5.heap.size w5 (u4.setCells gA 0 KA.toList) := grown_below bu4 gs bu4.size hgA
            refine hK.out _ _ b1 (fun _ => ?_)
            clear hK K gs hA1
            generalize u4.setCells gA 0 KA.toList = y1 at kA1 kB1 b1 ⊢
            refine wpAnyH_ready (rs := [7]) (by kernel_rfl) (by simp) ?_
            refine AllReadyH.cons rfl (fun K hK => ?_) AllReadyH.nil
            rw [if_pos (by rfl)]
            refine wp_store_mid 34 (.tmp 13) (.tmp 41) rfl gB 0 KB rfl rfl (Blk.there_ kB1 (by rw [SKB.out, ZS.out]; exact Nat.le_refl _)) (by rw [SKB.out]; exact I76.out) AKB.out ?_
            simp only [List.getElem_toArray, List.getElem_cons_succ, List.getElem_cons_zero, Act.put, List.setIfInBounds_toArray, List.set_cons_succ, List.set_cons_zero]
            have hB1 : KB.toList.length = Z.size := by rw [ZS.out, Array.length_toList]; exact SKB.out
            have gs : y1.grownBy (y1.setCells gB 0 KB.toList) (some gB) := only_setCells _ _ _ (gb_self _ _)
            have kB2 : Blk (y1.setCells gB 0 KB.toList) gB 34 KB := by have h := kB1.setAll hB1; rwa [Array.toArray_toList] at h
            have kA2 : Blk (y1.setCells gB 0 KB.toList) gA 34 KA := kA1.grown gs (by intro h; injection h with h; exact hne h)
            have b2 : Below w5.heap.size w5 (y1.setCells gB 0 KB.toList) := grown_below b1 gs b1.size hgB
            refine hK.out _ _ b2 (fun _ => ?_)
            clear hK K gs hB1
            refine wpAnyH_done (by kernel_rfl) ?_ _
            have FIN := Lib.hid (And.intro kA2 (And.intro kB2 b2))
            clear kA2 kB2 b2 kA1 kB1 b1 kAu4 kBu4 bu4
            generalize y1.setCells gB 0 KB.toList = y2 at FIN ⊢
            go_wp2_with fail
            go_meet
            exact ⟨gA, gB, rfl, rfl, FIN⟩
        · go_simp
          have bu5 : Below w5.heap.size w5 (u2.alloc (.cells Z 34)) := bu2.alloc bu2.size _
          have kBu5 : Blk (u2.alloc (.cells Z 34)) u2.heap.size 34 Z := Blk.new _ _ _
          have hgB := bu2.size
          refine hK.out _ _ bu5 (fun _ => ?_)
          clear hK K
          obtain ⟨gB, hgx⟩ : ∃ g, g = u2.heap.size := ⟨_, rfl⟩
          rw [← hgx] at kBu5 hgB ⊢
          generalize u2.alloc (.cells Z 34) = u5 at bu5 kBu5 ⊢
          clear hgx
          refine wpAnyH_ready (rs := [4]) (by kernel_rfl) (by simp) ?_
          refine AllReadyH.cons rfl (fun K hK => ?_) AllReadyH.nil
          · go_simp
            have bu6 : Below w5.heap.size w5 (u5.alloc (.cells Z 34)) := bu5.alloc bu5.size _
            have kAu6 : Blk (u5.alloc (.cells Z 34)) u5.heap.size 34 Z := Blk.new _ _ _
            have kBu6 := kBu5.alloc (.cells Z 34)
            have hlt := kBu5.lt
            have hgA := bu5.size
            refine hK.out _ _ bu6 (fun _ => ?_)
            clear hK K
            obtain ⟨gA, hgx⟩ : ∃ g, g = u5.heap.size := ⟨_, rfl⟩
            rw [← hgx] at kAu6 hgA ⊢
            rw [← hgx] at hlt
            have hne : gA ≠ gB := by omega
            generalize u5.alloc (.cells Z 34) = u6 at bu6 kAu6 kBu6 ⊢
            clear hgx
            refine wpAnyH_ready (rs := [6]) (by kernel_rfl) (by simp) ?_
            refine AllReadyH.cons rfl (fun K hK => ?_) AllReadyH.nil
            rw [if_pos (by rfl)]
            refine wp_store_mid 34 (.tmp 12) (.tmp 39) rfl gA 0 KA rfl rfl (Blk.there_ kAu6 (by rw [SKA.out, ZS.out]; exact Nat.le_refl _)) (by rw [SKA.out]; exact I76.out) AKA.out ?_
            simp only [List.getElem_toArray, List.getElem_cons_succ, List.getElem_cons_zero, Act.put, List.setIfInBounds_toArray, List.set_cons_succ, List.set_cons_zero]
            have hA1 : KA.toList.length = Z.size := by rw [ZS.out, Array.length_toList]; exact SKA.out
            have gs : u6.grownBy (u6.setCells gA 0 KA.toList) (some gA) := only_setCells _ _ _ (gb_self _ _)
            have kA1 : Blk (u6.setCells gA 0 KA.toList) gA 34 KA := by have h := kAu6.setAll hA1; rwa [Array.toArray_toList] at h
            have kB1 : Blk (u6.setCells gA 0 KA.toList) gB 34 Z := kBu6.grown gs (by intro h; injection h with h; exact hne h.symm)
            have b1 : Below w5.heap.size w5 (u6.setCells gA 0 KA.toList) := grown_below bu6 gs bu6.size hgA
            refine hK.out _ _ b1 (fun _ => ?_)
            clear hK K gs hA1
            generalize u6.setCells gA 0 KA.toList = y1 at kA1 kB1 b1 ⊢
            refine wpAnyH_ready (rs := [7]) (by kernel_rfl) (by simp) ?_
            refine AllReadyH.cons rfl (fun K hK => ?_) AllReadyH.nil
            rw [if_pos (by rfl)]
            refine wp_store_mid 34 (.tmp 13) (.tmp 41) rfl gB 0 KB rfl rfl (Blk.there_ kB1 (by rw [SKB.out, ZS.out]; exact Nat.le_refl _)) (by rw [SKB.out]; exact I76.out) AKB.out ?_
            simp only [List.getElem_toArray, List.getElem_cons_succ, List.getElem_cons_zero, Act.put, List.setIfInBounds_toArray, List.set_cons_succ, List.set_cons_zero]
            have hB1 : KB.toList.length = Z.size := by rw [ZS.out, Array.length_toList]; exact SKB.out
            have gs : y1.grownBy (y1.setCells gB 0 KB.toList) (some gB) := only_setCells _ _ _ (gb_self _ _)
            have kB2 : Blk (y1.setCells gB 0 KB.toList) gB 34 KB := by have h := kB1.setAll hB1; rwa [Array.toArray_toList] at h
            have kA2 : Blk (y1.setCells gB 0 KB.toList) gA 34 KA := kA1.grown gs (by intro h; injection h with h; exact hne h)
            have b2 : Below w5.heap.size w5 (y1.setCells gB 0 KB.toList) := grown_below b1 gs b1.size hgB
            refine hK.out _ _ b2 (fun _ => ?_)
            clear hK K gs hB1
            refine wpAnyH_done (by kernel_rfl) ?_ _
            have FIN := Lib.hid (And.intro kA2 (And.intro kB2 b2))
            clear kA2 kB2 b2 kA1 kB1 b1 kAu6 kBu6 bu6
            generalize y1.setCells gB 0 KB.toList = y2 at FIN ⊢
            go_wp2_with fail
            go_meet
            exact ⟨gA, gB, rfl, rfl, FIN⟩
      · go_simp
        have bu7 : Below w5.heap.size w5 (u1.alloc (.cells Z 34)) := bu1.alloc bu1.size _
        have kAu7 : Blk (u1.alloc (.cells Z 34)) u1.heap.size 34 Z := Blk.new _ _ _
        have hgA := bu1.size
        refine hK.out _ _ bu7 (fun _ => ?_)
        clear hK K
        obtain ⟨gA, hgx⟩ : ∃ g, g = u1.heap.size := ⟨_, rfl⟩
        rw [← hgx] at kAu7 hgA ⊢
        generalize u1.alloc (.cells Z 34) = u7 at bu7 kAu7 ⊢
        clear hgx
        refine wpAnyH_ready (rs := [3, 5]) (by kernel_rfl) (by simp) ?_
        refine AllReadyH.cons rfl (fun K hK => ?_) (AllReadyH.cons rfl (fun K hK => ?_) AllReadyH.nil)
        · go_simp
          refine (CDb.out u7 (BL5.out.trans (bu7.mono BL5.out.size))).mono ?_
          rintro e u8 ⟨rfl, bs⟩
          have bu8 : Below w5.heap.size w5 u8 := bu7.trans (bs.mono bu7.size)
          have kAu8 := kAu7.below bs kAu7.lt
          refine hK.out _ _ bu8 (fun _ => ?_)
          clear hK K bs
          refine wpAnyH_ready (rs := [5]) (by kernel_rfl) (by simp) ?_
          refine AllReadyH.cons rfl (fun K hK => ?_) AllReadyH.nil
          · go_simp
            have bu9 : Below w5.heap.size w5 (u8.alloc (.cells Z 34)) := bu8.alloc bu8.size _
            have kBu9 : Blk (u8.alloc (.cells Z 34)) u8.heap.size 34 Z := Blk.new _ _ _
            have kAu9 := kAu8.alloc (.cells Z 34)
            have hlt := kAu8.lt
            have hgB := bu8.size
            refine hK.out _ _ bu9 (fun _ => ?_)
            clear hK K
            obtain ⟨gB, hgx⟩ : ∃ g, g = u8.heap.size := ⟨_, rfl⟩
            rw [← hgx] at kBu9 hgB ⊢
            rw [← hgx] at hlt
            have hne : gA ≠ gB := by omega
            generalize u8.alloc (.cells Z 34) = u9 at bu9 kBu9 kAu9 ⊢
            clear hgx
            refine wpAnyH_ready (rs := [6]) (by kernel_rfl) (by simp) ?_
            refine AllReadyH.cons rfl (fun K hK => ?_) AllReadyH.nil
            rw [if_pos (by rfl)]
            refine wp_store_mid 34 (.tmp 12) (.tmp 39) rfl gA 0 KA rfl rfl (Blk.there_ kAu9 (by rw [SKA.out, ZS.out]; exact Nat.le_refl _)) (by rw [SKA.out]; exact I76.out) AKA.out ?_
            simp only [List.getElem_toArray, List.getElem_cons_succ, List.getElem_cons_zero, Act.put, List.setIfInBounds_toArray, List.set_cons_succ, List.set_cons_zero]
            have hA1 : KA.toList.length = Z.size := by rw [ZS.out, Array.length_toList]; exact SKA.out
            have gs : u9.grownBy (u9.setCells gA 0 KA.toList) (some gA) := only_setCells _ _ _ (gb_self _ _)
            have kA1 : Blk (u9.setCells gA 0 KA.toList) gA 34 KA := by have h := kAu9.setAll hA1; rwa [Array.toArray_toList] at h
            have kB1 : Blk (u9.setCells gA 0 KA.toList) gB 34 Z := kBu9.grown gs (by intro h; injection h with h; exact hne h.symm)
            have b1 : Below w5.heap.size w5 (u9.setCells gA 0 KA.toList) := grown_below bu9 gs bu9.size hgA
            refine hK.out _ _ b1 (fun _ => ?_)
            clear hK K gs hA1
            generalize u9.setCells gA 0 KA.toList = y1 at kA1 kB1 b1 ⊢
            refine wpAnyH_ready (rs := [7]) (by kernel_rfl) (by simp) ?_
            refine AllReadyH.cons rfl (fun K hK => ?_) AllReadyH.nil
            rw [if_pos (by rfl)]
            refine wp_store_mid 34 (.tmp 13) (.tmp 41) rfl gB 0 KB rfl rfl (Blk.there_ kB1 (by rw [SKB.out, ZS.out]; exact Nat.le_refl _)) (by rw [SKB.out]; exact I76.out) AKB.out ?_
            simp only [List.getElem_toArray, List.getElem_cons_succ, List.getElem_cons_zero, Act.put, List.setIfInBounds_toArray, List.set_cons_succ, List.set_cons_zero]
            have hB1 : KB.toList.length = Z.size := by rw [ZS.out, Array.length_toList]; exact SKB.out
            have gs : y1.grownBy (y1.setCells gB 0 KB.toList) (some gB) := only_setCells _ _ _ (gb_self _ _)
            have kB2 : Blk (y1.setCells gB 0 KB.toList) gB 34 KB := by have h := kB1.setAll hB1; rwa [Array.toArray_toList] at h
            have kA2 : Blk (y1.setCells gB 0 KB.toList) gA 34 KA := kA1.grown gs (by intro h; injection h with h; exact hne h)
            have b2 : Below w5.heap.size w5 (y1.setCells gB 0 KB.toList) := grown_below b1 gs b1.size hgB
            refine hK.out _ _ b2 (fun _ => ?_)
            clear hK K gs hB1
            refine wpAnyH_done (by kernel_rfl) ?_ _
            have FIN := Lib.hid (And.intro kA2 (And.intro kB2 b2))
            clear kA2 kB2 b2 kA1 kB1 b1 kAu9 kBu9 bu9
            generalize y1.setCells gB 0 KB.toList = y2 at FIN ⊢
            go_wp2_with fail
            go_meet
            exact ⟨gA, gB, rfl, rfl, FIN⟩
        · go_simp
          have bu10 : Below w5.heap.size w5 (u7.alloc (.cells Z 34)) := bu7.alloc bu7.size _
          have kBu10 : Blk (u7.alloc (.cells Z 34)) u7.heap.size 34 Z := Blk.new _ _ _
          have kAu10 := kAu7.alloc (.cells Z 34)
          have hlt := kAu7.lt
          have hgB := bu7.size
          refine hK.out _ _ bu10 (fun _ => ?_)
          clear hK K
          obtain ⟨gB, hgx⟩ : ∃ g, g = u7.heap.size := ⟨_, rfl⟩
          rw [← hgx] at kBu10 hgB ⊢
          rw [← hgx] at hlt
          have hne : gA ≠ gB := by omega
          generalize u7.alloc (.cells Z 34) = u10 at bu10 kBu10 kAu10 ⊢
          clear hgx
          refine wpAnyH_ready (rs := [3]) (by kernel_rfl) (by simp) ?_
          refine AllReadyH.cons rfl (fun K hK => ?_) AllReadyH.nil
          · go_simp
            refine (CDb.out u10 (BL5.out.trans (bu10.mono BL5.out.size))).mono ?_
            rintro e u11 ⟨rfl, bs⟩
            have bu11 : Below w5.heap.size w5 u11 := bu10.trans (bs.mono bu10.size)
            have kAu11 := kAu10.below bs kAu10.lt
            have kBu11 := kBu10.below bs kBu10.lt
            refine hK.out _ _ bu11 (fun _ => ?_)
            clear hK K bs
            refine wpAnyH_ready (rs := [6]) (by kernel_rfl) (by simp) ?_
            refine AllReadyH.cons rfl (fun K hK => ?_) AllReadyH.nil
            rw [if_pos (by rfl)]
            refine wp_store_mid 34 (.tmp 12) (.tmp 39) rfl gA 0 KA rfl rfl (Blk.there_ kAu11 (by rw [SKA.out, ZS.out]; exact Nat.le_refl _)) (by rw [SKA.out]; exact I76.out) AKA.out ?_
            simp only [List.getElem_toArray, List.getElem_cons_succ, List.getElem_cons_zero, Act.put, List.setIfInBounds_toArray, List.set_cons_succ, List.set_cons_zero]
            have hA1 : KA.toList.length = Z.size := by rw [ZS.out, Array.length_toList]; exact SKA.out
            have gs : u11.grownBy (u11.setCells gA 0 KA.toList) (some gA) := only_setCells _ _ _ (gb_self _ _)
            have kA1 : Blk (u11.setCells gA 0 KA.toList) gA 34 KA := by have h := kAu11.setAll hA1; rwa [Array.toArray_toList] at h
            have kB1 : Blk (u11.setCells gA 0 KA.toList) gB 34 Z := kBu11.grown gs (by intro h; injection h with h; exact hne h.symm)
            have b1 : Below w5.heap.size w5 (u11.setCells gA 0 KA.toList) := grown_below bu11 gs bu11.size hgA
            refine hK.out _ _ b1 (fun _ => ?_)
            clear hK K gs hA1
            generalize u11.setCells gA 0 KA.toList = y1 at kA1 kB1 b1 ⊢
            refine wpAnyH_ready (rs := [7]) (by kernel_rfl) (by simp) ?_
            refine AllReadyH.cons rfl (fun K hK => ?_) AllReadyH.nil
            rw [if_pos (by rfl)]
            refine wp_store_mid 34 (.tmp 13) (.tmp 41) rfl gB 0 KB rfl rfl (Blk.there_ kB1 (by rw [SKB.out, ZS.out]; exact Nat.le_refl _)) (by rw [SKB.out]; exact I76.out) AKB.out ?_
            simp only [List.getElem_toArray, List.getElem_cons_succ, List.getElem_cons_zero, Act.put, List.setIfInBounds_toArray, List.set_cons_succ, List.set_cons_zero]
            have hB1 : KB.toList.length = Z.size := by rw [ZS.out, Array.length_toList]; exact SKB.out
            have gs : y1.grownBy (y1.setCells gB 0 KB.toList) (some gB) := only_setCells _ _ _ (gb_self _ _)
            have kB2 : Blk (y1.setCells gB 0 KB.toList) gB 34 KB := by have h := kB1.setAll hB1; rwa [Array.toArray_toList] at h
            have kA2 : Blk (y1.setCells gB 0 KB.toList) gA 34 KA := kA1.grown gs (by intro h; injection h with h; exact hne h)
            have b2 : Below w5.heap.size w5 (y1.setCells gB 0 KB.toList) := grown_below b1 gs b1.size hgB
            refine hK.out _ _ b2 (fun _ => ?_)
            clear hK K gs hB1
            refine wpAnyH_done (by kernel_rfl) ?_ _
            have FIN := Lib.hid (And.intro kA2 (And.intro kB2 b2))
            clear kA2 kB2 b2 kA1 kB1 b1 kAu11 kBu11 bu11
            generalize y1.setCells gB 0 KB.toList = y2 at FIN ⊢
            go_wp2_with fail
            go_meet
            exact ⟨gA, gB, rfl, rfl, FIN⟩
      · go_simp
        have bu12 : Below w5.heap.size w5 (u1.alloc (.cells Z 34)) := bu1.alloc bu1.size _
        have kBu12 : Blk (u1.alloc (.cells Z 34)) u1.heap.size 34 Z := Blk.new _ _ _
        have hgB := bu1.size
        refine hK.out _ _ bu12 (fun _ => ?_)
        clear hK K
        obtain ⟨gB, hgx⟩ : ∃ g, g = u1.heap.size := ⟨_, rfl⟩
        rw [← hgx] at kBu12 hgB ⊢
        generalize u1.alloc (.cells Z 34) = u12 at bu12 kBu12 ⊢
        clear hgx
        refine wpAnyH_ready (rs := [3, 4]) (by kernel_rfl) (by simp) ?_
        refine AllReadyH.cons rfl (fun K hK => ?_) (AllReadyH.cons rfl (fun K hK => ?_) AllReadyH.nil)
        · go_simp
          refine (CDb.out u12 (BL5.out.trans (bu12.mono BL5.out.size))).mono ?_
          rintro e u13 ⟨rfl, bs⟩
          have bu13 : Below w5.heap.size w5 u13 := bu12.trans (bs.mono bu12.size)
          have kBu13 := kBu12.below bs kBu12.lt
          refine hK.out _ _ bu13 (fun _ => ?_)
          clear hK K bs
          refine wpAnyH_ready (rs := [4]) (by kernel_rfl) (by simp) ?_
          refine AllReadyH.cons rfl (fun K hK => ?_) AllReadyH.nil
          · go_simp
            have bu14 : Below w5.heap.size w5 (u13.alloc (.cells Z 34)) := bu13.alloc bu13.size _
            have kAu14 : Blk (u13.alloc (.cells Z 34)) u13.heap.size 34 Z := Blk.new _ _ _
            have kBu14 := kBu13.alloc (.cells Z 34)
            have hlt := kBu13.lt
            have hgA := bu13.size
            refine hK.out _ _ bu14 (fun _ => ?_)
            clear hK K
            obtain ⟨gA, hgx⟩ : ∃ g, g = u13.heap.size := ⟨_, rfl⟩
            rw [← hgx] at kAu14 hgA ⊢
            rw [← hgx] at hlt
            have hne : gA ≠ gB := by omega
            generalize u13.alloc (.cells Z 34) = u14 at bu14 kAu14 kBu14 ⊢
            clear hgx
            refine wpAnyH_ready (rs := [6]) (by kernel_rfl) (by simp) ?_
            refine AllReadyH.cons rfl (fun K hK => ?_) AllReadyH.nil
            rw [if_pos (by rfl)]
            refine wp_store_mid 34 (.tmp 12) (.tmp 39) rfl gA 0 KA rfl rfl (Blk.there_ kAu14 (by rw [SKA.out, ZS.out]; exact Nat.le_refl _)) (by rw [SKA.out]; exact I76.out) AKA.out ?_
            simp only [List.getElem_toArray, List.getElem_cons_succ, List.getElem_cons_zero, Act.put, List.setIfInBounds_toArray, List.set_cons_succ, List.set_cons_zero]
            have hA1 : KA.toList.length = Z.size := by rw [ZS.out, Array.length_toList]; exact SKA.out
            have gs : u14.grownBy (u14.setCells gA 0 KA.toList) (some gA) := only_setCells _ _ _ (gb_self _ _)
            have kA1 : Blk (u14.setCells gA 0 KA.toList) gA 34 KA := by have h := kAu14.setAll hA1; rwa [Array.toArray_toList] at h
            have kB1 : Blk (u14.setCells gA 0 KA.toList) gB 34 Z := kBu14.grown gs (by intro h; injection h with h; exact hne h.symm)
            have b1 : Below w5.heap.size w5 (u14.setCells gA 0 KA.toList) := grown_below bu14 gs bu14.size hgA
            refine hK.out _ _ b1 (fun _ => ?_)
            clear hK K gs hA1
            generalize u14.setCells gA 0 KA.toList = y1 at kA1 kB1 b1 ⊢
            refine wpAnyH_ready (rs := [7]) (by kernel_rfl) (by simp) ?_
            refine AllReadyH.cons rfl (fun K hK => ?_) AllReadyH.nil
            rw [if_pos (by rfl)]
            refine wp_store_mid 34 (.tmp 13) (.tmp 41) rfl gB 0 KB rfl rfl (Blk.there_ kB1 (by rw [SKB.out, ZS.out]; exact Nat.le_refl _)) (by rw [SKB.out]; exact I76.out) AKB.out ?_
            simp only [List.getElem_toArray, List.getElem_cons_succ, List.getElem_cons_zero, Act.put, List.setIfInBounds_toArray, List.set_cons_succ, List.set_cons_zero]
            have hB1 : KB.toList.length = Z.size := by rw [ZS.out, Array.length_toList]; exact SKB.out
            have gs : y1.grownBy (y1.setCells gB 0 KB.toList) (some gB) := only_setCells _ _ _ (gb_self _ _)
            have kB2 : Blk (y1.setCells gB 0 KB.toList) gB 34 KB := by have h := kB1.setAll hB1; rwa [Array.toArray_toList] at h
            have kA2 : Blk (y1.setCells gB 0 KB.toList) gA 34 KA := kA1.grown gs (by intro h; injection h with h; exact hne h)
            have b2 : Below w5.heap.size w5 (y1.setCells gB 0 KB.toList) := grown_below b1 gs b1.size hgB
            refine hK.out _ _ b2 (fun _ => ?_)
            clear hK K gs hB1
            refine wpAnyH_done (by kernel_rfl) ?_ _
            have FIN := Lib.hid (And.intro kA2 (And.intro kB2 b2))
            clear kA2 kB2 b2 kA1 kB1 b1 kAu14 kBu14 bu14
            generalize y1.setCells gB 0 KB.toList = y2 at FIN ⊢
            go_wp2_with fail
            go_meet
            exact ⟨gA, gB, rfl, rfl, FIN⟩
        · go_simp
          have bu15 : Below w5.heap.size w5 (u12.alloc (.cells Z 34)) := bu12.alloc bu12.size _
          have kAu15 : Blk (u12.alloc (.cells Z 34)) u12.heap.size 34 Z := Blk.new _ _ _
          have kBu15 := kBu12.alloc (.cells Z 34)
          have hlt := kBu12.lt
          have hgA := bu12.size
          refine hK.out _ _ bu15 (fun _ => ?_)
          clear hK K
          obtain ⟨gA, hgx⟩ : ∃ g, g = u12.heap.size := ⟨_, rfl⟩
          rw [← hgx] at kAu15 hgA ⊢
          rw [← hgx] at hlt
          have hne : gA ≠ gB := by omega
          generalize u12.alloc (.cells Z 34) = u15 at bu15 kAu15 kBu15 ⊢
          clear hgx
          refine wpAnyH_ready (rs := [3]) (by kernel_rfl) (by simp) ?_
          refine AllReadyH.cons rfl (fun K hK => ?_) AllReadyH.nil
          · go_simp
            refine (CDb.out u15 (BL5.out.trans (bu15.mono BL5.out.size))).mono ?_
            rintro e u16 ⟨rfl, bs⟩
            have bu16 : Below w5.heap.size w5 u16 := bu15.trans (bs.mono bu15.size)
            have kAu16 := kAu15.below bs kAu15.lt
            have kBu16 := kBu15.below bs kBu15.lt
            refine hK.out _ _ bu16 (fun _ => ?_)
            clear hK K bs
            refine wpAnyH_ready (rs := [6]) (by kernel_rfl) (by simp) ?_
            refine AllReadyH.cons rfl (fun K hK => ?_) AllReadyH.nil
            rw [if_pos (by rfl)]
            refine wp_store_mid 34 (.tmp 12) (.tmp 39) rfl gA 0 KA rfl rfl (Blk.there_ kAu16 (by rw [SKA.out, ZS.out]; exact Nat.le_refl _)) (by rw [SKA.out]; exact I76.out) AKA.out ?_
            simp only [List.getElem_toArray, List.getElem_cons_succ, List.getElem_cons_zero, Act.put, List.setIfInBounds_toArray, List.set_cons_succ, List.set_cons_zero]
            have hA1 : KA.toList.length = Z.size := by rw [ZS.out, Array.length_toList]; exact SKA.out
            have gs : u16.grownBy (u16.setCells gA 0 KA.toList) (some gA) := only_setCells _ _ _ (gb_self _ _)
            have kA1 : Blk (u16.setCells gA 0 KA.toList) gA 34 KA := by have h := kAu16.setAll hA1; rwa [Array.toArray_toList] at h
            have kB1 : Blk (u16.setCells gA 0 KA.toList) gB 34 Z := kBu16.grown gs (by intro h; injection h with h; exact hne h.symm)
            have b1 : Below w5.heap.size w5 (u16.setCells gA 0 KA.toList) := grown_below bu16 gs bu16.size hgA
            refine hK.out _ _ b1 (fun _ => ?_)
            clear hK K gs hA1
            generalize u16.setCells gA 0 KA.toList = y1 at kA1 kB1 b1 ⊢
            refine wpAnyH_ready (rs := [7]) (by kernel_rfl) (by simp) ?_
            refine AllReadyH.cons rfl (fun K hK => ?_) AllReadyH.nil
            rw [if_pos (by rfl)]
            refine wp_store_mid 34 (.tmp 13) (.tmp 41) rfl gB 0 KB rfl rfl (Blk.there_ kB1 (by rw [SKB.out, ZS.out]; exact Nat.le_refl _)) (by rw [SKB.out]; exact I76.out) AKB.out ?_
            simp only [List.getElem_toArray, List.getElem_cons_succ, List.getElem_cons_zero, Act.put, List.setIfInBounds_toArray, List.set_cons_succ, List.set_cons_zero]
            have hB1 : KB.toList.length = Z.size := by rw [ZS.out, Array.length_toList]; exact SKB.out
            have gs : y1.grownBy (y1.setCells gB 0 KB.toList) (some gB) := only_setCells _ _ _ (gb_self _ _)
            have kB2 : Blk (y1.setCells gB 0 KB.toList) gB 34 KB := by have h := kB1.setAll hB1; rwa [Array.toArray_toList] at h
            have kA2 : Blk (y1.setCells gB 0 KB.toList) gA 34 KA := kA1.grown gs (by intro h; injection h with h; exact hne h)
            have b2 : Below w5.heap.size w5 (y1.setCells gB 0 KB.toList) := grown_below b1 gs b1.size hgB
            refine hK.out _ _ b2 (fun _ => ?_)
            clear hK K gs hB1
            refine wpAnyH_done (by kernel_rfl) ?_ _
            have FIN := Lib.hid (And.intro kA2 (And.intro kB2 b2))
            clear kA2 kB2 b2 kA1 kB1 b1 kAu16 kBu16 bu16
            generalize y1.setCells gB 0 KB.toList = y2 at FIN ⊢
            go_wp2_with fail
            go_meet
            exact ⟨gA, gB, rfl, rfl, FIN⟩
    · go_simp
      have bu17 : Below w5.heap.size w5 (u0.alloc (.cells Z 34)) := bu0.alloc bu0.size _
      have kAu17 : Blk (u0.alloc (.cells Z 34)) u0.heap.size 34 Z := Blk.new _ _ _
      have hgA := bu0.size
      refine hK.out _ _ bu17 (fun _ => ?_)
      clear hK K
      obtain ⟨gA, hgx⟩ : ∃ g, g = u0.heap.size := ⟨_, rfl⟩
      rw [← hgx] at kAu17 hgA ⊢
      generalize u0.alloc (.cells Z 34) = u17 at bu17 kAu17 ⊢
      clear hgx
      refine wpAnyH_ready (rs := [1, 5]) (by kernel_rfl) (by simp) ?_
      refine AllReadyH.cons rfl (fun K hK => ?_) (AllReadyH.cons rfl (fun K hK => ?_) AllReadyH.nil)
      · go_simp
        refine (CDa.out u17 (BL5.out.trans (bu17.mono BL5.out.size))).mono ?_
        rintro e u18 ⟨rfl, bs⟩
        have bu18 : Below w5.heap.size w5 u18 := bu17.trans (bs.mono bu17.size)
        have kAu18 := kAu17.below bs kAu17.lt
        refine hK.out _ _ bu18 (fun _ => ?_)
        clear hK K bs
        refine wpAnyH_ready (rs := [3, 5]) (by kernel_rfl) (by simp) ?_
        refine AllReadyH.cons rfl (fun K hK => ?_) (AllReadyH.cons rfl (fun K hK => ?_) AllReadyH.nil)
        · go_simp
          refine (CDb.out u18 (BL5.out.trans (bu18.mono BL5.out.size))).mono ?_
          rintro e u19 ⟨rfl, bs⟩
          have bu19 : Below w5.heap.size w5 u19 := bu18.trans (bs.mono bu18.size)
          have kAu19 := kAu18.below bs kAu18.lt
          refine hK.out _ _ bu19 (fun _ => ?_)
          clear hK K bs
          refine wpAnyH_ready (rs := [5]) (by kernel_rfl) (by simp) ?_
          refine AllReadyH.cons rfl (fun K hK => ?_) AllReadyH.nil
          · go_simp
            have bu20 : Below w5.heap.size w5 (u19.alloc (.cells Z 34)) := bu19.alloc bu19.size _
            have kBu20 : Blk (u19.alloc (.cells Z 34)) u19.heap.size 34 Z := Blk.new _ _ _
            have kAu20 := kAu19.alloc (.cells Z 34)
            have hlt := kAu19.lt
            have hgB := bu19.size
            refine hK.out _ _ bu20 (fun _ => ?_)
            clear hK K
            obtain ⟨gB, hgx⟩ : ∃ g, g = u19.heap.size := ⟨_, rfl⟩
            rw [← hgx] at kBu20 hgB ⊢
            rw [← hgx] at hlt
            have hne : gA ≠ gB := by omega
            generalize u19.alloc (.cells Z 34) = u20 at bu20 kBu20 kAu20 ⊢
            clear hgx
            refine wpAnyH_ready (rs := [6]) (by kernel_rfl) (by simp) ?_
            refine AllReadyH.cons rfl (fun K hK => ?_) AllReadyH.nil
            rw [if_pos (by rfl)]
            refine wp_store_mid 34 (.tmp 12) (.tmp 39) rfl gA 0 KA rfl rfl (Blk.there_ kAu20 (by rw [SKA.out, ZS.out]; exact Nat.le_refl _)) (by rw [SKA.out]; exact I76.out) AKA.out ?_
            simp only [List.getElem_toArray, List.getElem_cons_succ, List.getElem_cons_zero, Act.put, List.setIfInBounds_toArray, List.set_cons_succ, List.set_cons_zero]
            have hA1 : KA.toList.length = Z.size := by rw [ZS.out, Array.length_toList]; exact SKA.out
            have gs : u20.grownBy (u20.setCells gA 0 KA.toList) (some gA) := only_setCells _ _ _ (gb_self _ _)
            have kA1 : Blk (u20.setCells gA 0 KA.toList) gA 34 KA := by have h := kAu20.setAll hA1; rwa [Array.toArray_toList] at h
            have kB1 : Blk (u20.setCells gA 0 KA.toList) gB 34 Z := kBu20.grown gs (by intro h; injection h with h; exact hne h.symm)
            have b1 : Below w5.heap.size w5 (u20.setCells gA 0 KA.toList) := grown_below bu20 gs bu20.size hgA
            refine hK.out _ _ b1 (fun _ => ?_)
            clear hK K gs hA1
            generalize u20.setCells gA 0 KA.toList = y1 at kA1 kB1 b1 ⊢
            refine wpAnyH_ready (rs := [7]) (by kernel_rfl) (by simp) ?_
            refine AllReadyH.cons rfl (fun K hK => ?_) AllReadyH.nil
            rw [if_pos (by rfl)]
            refine wp_store_mid 34 (.tmp 13) (.tmp 41) rfl gB 0 KB rfl rfl (Blk.there_ kB1 (by rw [SKB.out, ZS.out]; exact Nat.le_refl _)) (by rw [SKB.out]; exact I76.out) AKB.out ?_
            simp only [List.getElem_toArray, List.getElem_cons_succ, List.getElem_cons_zero, Act.put, List.setIfInBounds_toArray, List.set_cons_succ, List.set_cons_zero]
            have hB1 : KB.toList.length = Z.size := by rw [ZS.out, Array.length_toList]; exact SKB.out
            have gs : y1.grownBy (y1.setCells gB 0 KB.toList) (some gB) := only_setCells _ _ _ (gb_self _ _)
            have kB2 : Blk (y1.setCells gB 0 KB.toList) gB 34 KB := by have h := kB1.setAll hB1; rwa [Array.toArray_toList] at h
            have kA2 : Blk (y1.setCells gB 0 KB.toList) gA 34 KA := kA1.grown gs (by intro h; injection h with h; exact hne h)
            have b2 : Below w5.heap.size w5 (y1.setCells gB 0 KB.toList) := grown_below b1 gs b1.size hgB
            refine hK.out _ _ b2 (fun _ => ?_)
            clear hK K gs hB1
            refine wpAnyH_done (by kernel_rfl) ?_ _
            have FIN := Lib.hid (And.intro kA2 (And.intro kB2 b2))
            clear kA2 kB2 b2 kA1 kB1 b1 kAu20 kBu20 bu20
            generalize y1.setCells gB 0 KB.toList = y2 at FIN ⊢
            go_wp2_with fail
            go_meet
            exact ⟨gA, gB, rfl, rfl, FIN⟩
        · go_simp
          have bu21 : Below w5.heap.size w5 (u18.alloc (.cells Z 34)) := bu18.alloc bu18.size _
          have kBu21 : Blk (u18.alloc (.cells Z 34)) u18.heap.size 34 Z := Blk.new _ _ _
          have kAu21 := kAu18.alloc (.cells Z 34)
          have hlt := kAu18.lt
          have hgB := bu18.size
          refine hK.out _ _ bu21 (fun _ => ?_)
          clear hK K
          obtain ⟨gB, hgx⟩ : ∃ g, g = u18.heap.size := ⟨_, rfl⟩
          rw [← hgx] at kBu21 hgB ⊢
          rw [← hgx] at hlt
          have hne : gA ≠ gB := by omega
          generalize u18.alloc (.cells Z 34) = u21 at bu21 kBu21 kAu21 ⊢
          clear hgx
          refine wpAnyH_ready (rs := [3]) (by kernel_rfl) (by simp) ?_
          refine AllReadyH.cons rfl (fun K hK => ?_) AllReadyH.nil
          · go_simp
            refine (CDb.out u21 (BL5.out.trans (bu21.mono BL5.out.size))).mono ?_
            rintro e u22 ⟨rfl, bs⟩
            have bu22 : Below w5.heap.size w5 u22 := bu21.trans (bs.mono bu21.size)
            have kAu22 := kAu21.below bs kAu21.lt
            have kBu22 := kBu21.below bs kBu21.lt
            refine hK.out _ _ bu22 (fun _ => ?_)
            clear hK K bs
            refine wpAnyH_ready (rs := [6]) (by kernel_rfl) (by simp) ?_
            refine AllReadyH.cons rfl (fun K hK => ?_) AllReadyH.nil
            rw [if_pos (by rfl)]
            refine wp_store_mid 34 (.tmp 12) (.tmp 39) rfl gA 0 KA rfl rfl (Blk.there_ kAu22 (by rw [SKA.out, ZS.out]; exact Nat.le_refl _)) (by rw [SKA.out]; exact I76.out) AKA.out ?_
            simp only [List.getElem_toArray, List.getElem_cons_succ, List.getElem_cons_zero, Act.put, List.setIfInBounds_toArray, List.set_cons_succ, List.set_cons_zero]
            have hA1 : KA.toList.length = Z.size := by rw [ZS.out, Array.length_toList]; exact SKA.out
            have gs : u22.grownBy (u22.setCells gA 0 KA.toList) (some gA) := only_setCells _ _ _ (gb_self _ _)
            have kA1 : Blk (u22.setCells gA 0 KA.toList) gA 34 KA := by have h := kAu22.setAll hA1; rwa [Array.toArray_toList] at h
            have kB1 : Blk (u22.setCells gA 0 KA.toList) gB 34 Z := kBu22.grown gs (by intro h; injection h with h; exact hne h.symm)
            have b1 : Below w5.heap.size w5 (u22.setCells gA 0 KA.toList) := grown_below bu22 gs bu22.size hgA
            refine hK.out _ _ b1 (fun _ => ?_)
            clear hK K gs hA1
            generalize u22.setCells gA 0 KA.toList = y1 at kA1 kB1 b1 ⊢
            refine wpAnyH_ready (rs := [7]) (by kernel_rfl) (by simp) ?_
            refine AllReadyH.cons rfl (fun K hK => ?_) AllReadyH.nil
            rw [if_pos (by rfl)]
            refine wp_store_mid 34 (.tmp 13) (.tmp 41) rfl gB 0 KB rfl rfl (Blk.there_ kB1 (by rw [SKB.out, ZS.out]; exact Nat.le_refl _)) (by rw [SKB.out]; exact I76.out) AKB.out ?_
            simp only [List.getElem_toArray, List.getElem_cons_succ, List.getElem_cons_zero, Act.put, List.setIfInBounds_toArray, List.set_cons_succ, List.set_cons_zero]
            have hB1 : KB.toList.length = Z.size := by rw [ZS.out, Array.length_toList]; exact SKB.out
            have gs : y1.grownBy (y1.setCells gB 0 KB.toList) (some gB) := only_setCells _ _ _ (gb_self _ _)
            have kB2 : Blk (y1.setCells gB 0 KB.toList) gB 34 KB := by have h := kB1.setAll hB1; rwa [Array.toArray_toList] at h
            have kA2 : Blk (y1.setCells gB 0 KB.toList) gA 34 KA := kA1.grown gs (by intro h; injection h with h; exact hne h)
            have b2 : Below w5.heap.size w5 (y1.setCells gB 0 KB.toList) := grown_below b1 gs b1.size hgB
            refine hK.out _ _ b2 (fun _ => ?_)
            clear hK K gs hB1
            refine wpAnyH_done (by kernel_rfl) ?_ _
            have FIN := Lib.hid (And.intro kA2 (And.intro kB2 b2))
            clear kA2 kB2 b2 kA1 kB1 b1 kAu22 kBu22 bu22
            generalize y1.setCells gB 0 KB.toList = y2 at FIN ⊢
            go_wp2_with fail
            go_meet
            exact ⟨gA, gB, rfl, rfl, FIN⟩
      · go_simp
        have bu23 : Below w5.heap.size w5 (u17.alloc (.cells Z 34)) := bu17.alloc bu17.size _
        have kBu23 : Blk (u17.alloc (.cells Z 34)) u17.heap.size 34 Z := Blk.new _ _ _
        have kAu23 := kAu17.alloc (.cells Z 34)
        have hlt := kAu17.lt
        have hgB := bu17.size
        refine hK.out _ _ bu23 (fun _ => ?_)
        clear hK K
        obtain ⟨gB, hgx⟩ : ∃ g, g = u17.heap.size := ⟨_, rfl⟩
        rw [← hgx] at kBu23 hgB ⊢
        rw [← hgx] at hlt
        have hne : gA ≠ gB := by omega
        generalize u17.alloc (.cells Z 34) = u23 at bu23 kBu23 kAu23 ⊢
        clear hgx
        refine wpAnyH_ready (rs := [1]) (by kernel_rfl) (by simp) ?_
        refine AllReadyH.cons rfl (fun K hK => ?_) AllReadyH.nil
        · go_simp
          refine (CDa.out u23 (BL5.out.trans (bu23.mono BL5.out.size))).mono ?_
          rintro e u24 ⟨rfl, bs⟩
          have bu24 : Below w5.heap.size w5 u24 := bu23.trans (bs.mono bu23.size)
          have kAu24 := kAu23.below bs kAu23.lt
          have kBu24 := kBu23.below bs kBu23.lt
          refine hK.out _ _ bu24 (fun _ => ?_)
          clear hK K bs
          refine wpAnyH_ready (rs := [3]) (by kernel_rfl) (by simp) ?_
          refine AllReadyH.cons rfl (fun K hK => ?_) AllReadyH.nil
          · go_simp
            refine (CDb.out u24 (BL5.out.trans (bu24.mono BL5.out.size))).mono ?_
            rintro e u25 ⟨rfl, bs⟩
            have bu25 : Below w5.heap.size w5 u25 := bu24.trans (bs.mono bu24.size)
            have kAu25 := kAu24.below bs kAu24.lt
            have kBu25 := kBu24.below bs kBu24.lt
            refine hK.out _ _ bu25 (fun _ => ?_)
            clear hK K bs
            refine wpAnyH_ready (rs := [6]) (by kernel_rfl) (by simp) ?_
            refine AllReadyH.cons rfl (fun K hK => ?_) AllReadyH.nil
            rw [if_pos (by rfl)]
            refine wp_store_mid 34 (.tmp 12) (.tmp 39) rfl gA 0 KA rfl rfl (Blk.there_ kAu25 (by rw [SKA.out, ZS.out]; exact Nat.le_refl _)) (by rw [SKA.out]; exact I76.out) AKA.out ?_
            simp only [List.getElem_toArray, List.getElem_cons_succ, List.getElem_cons_zero, Act.put, List.setIfInBounds_toArray, List.set_cons_succ, List.set_cons_zero]
            have hA1 : KA.toList.length = Z.size := by rw [ZS.out, Array.length_toList]; exact SKA.out
            have gs : u25.grownBy (u25.setCells gA 0 KA.toList) (some gA) := only_setCells _ _ _ (gb_self _ _)
            have kA1 : Blk (u25.setCells gA 0 KA.toList) gA 34 KA := by have h := kAu25.setAll hA1; rwa [Array.toArray_toList] at h
            have kB1 : Blk (u25.setCells gA 0 KA.toList) gB 34 Z := kBu25.grown gs (by intro h; injection h with h; exact hne h.symm)
            have b1 : Below w5.heap.size w5 (u25.setCells gA 0 KA.toList) := grown_below bu25 gs bu25.size hgA
            refine hK.out _ _ b1 (fun _ => ?_)
            clear hK K gs hA1
            generalize u25.setCells gA 0 KA.toList = y1 at kA1 kB1 b1 ⊢
            refine wpAnyH_ready (rs := [7]) (by kernel_rfl) (by simp) ?_
            refine AllReadyH.cons rfl (fun K hK => ?_) AllReadyH.nil
            rw [if_pos (by rfl)]
            refine wp_store_mid 34 (.tmp 13) (.tmp 41) rfl gB 0 KB rfl rfl (Blk.there_ kB1 (by rw [SKB.out, ZS.out]; exact Nat.le_refl _)) (by rw [SKB.out]; exact I76.out) AKB.out ?_
            simp only [List.getElem_toArray, List.getElem_cons_succ, List.getElem_cons_zero, Act.put, List.setIfInBounds_toArray, List.set_cons_succ, List.set_cons_zero]
            have hB1 : KB.toList.length = Z.size := by rw [ZS.out, Array.length_toList]; exact SKB.out
            have gs : y1.grownBy (y1.setCells gB 0 KB.toList) (some gB) := only_setCells _ _ _ (gb_self _ _)
            have kB2 : Blk (y1.setCells gB 0 KB.toList) gB 34 KB := by have h := kB1.setAll hB1; rwa [Array.toArray_toList] at h
            have kA2 : Blk (y1.setCells gB 0 KB.toList) gA 34 KA := kA1.grown gs (by intro h; injection h with h; exact hne h)
            have b2 : Below w5.heap.size w5 (y1.setCells gB 0 KB.toList) := grown_below b1 gs b1.size hgB
            refine hK.out _ _ b2 (fun _ => ?_)
            clear hK K gs hB1
            refine wpAnyH_done (by kernel_rfl) ?_ _
            have FIN := Lib.hid (And.intro kA2 (And.intro kB2 b2))
            clear kA2 kB2 b2 kA1 kB1 b1 kAu25 kBu25 bu25
            generalize y1.setCells gB 0 KB.toList = y2 at FIN ⊢
            go_wp2_with fail
            go_meet
            exact ⟨gA, gB, rfl, rfl, FIN⟩
    · go_simp
      have bu26 : Below w5.heap.size w5 (u0.alloc (.cells Z 34)) := bu0.alloc bu0.size _
      have kBu26 : Blk (u0.alloc (.cells Z 34)) u0.heap.size 34 Z := Blk.new _ _ _
      have hgB := bu0.size
      refine hK.out _ _ bu26 (fun _ => ?_)
      clear hK K
      obtain ⟨gB, hgx⟩ : ∃ g, g = u0.heap.size := ⟨_, rfl⟩
      rw [← hgx] at kBu26 hgB ⊢
      generalize u0.alloc (.cells Z 34) = u26 at bu26 kBu26 ⊢
      clear hgx
      refine wpAnyH_ready (rs := [1, 4]) (by kernel_rfl) (by simp) ?_
      refine AllReadyH.cons rfl (fun K hK => ?_) (AllReadyH.cons rfl (fun K hK => ?_) AllReadyH.nil)
      · go_simp
        refine (CDa.out u26 (BL5.out.trans (bu26.mono BL5.out.size))).mono ?_
        rintro e u27 ⟨rfl, bs⟩
        have bu27 : Below w5.heap.size w5 u27 := bu26.trans (bs.mono bu26.size)
        have kBu27 := kBu26.below bs kBu26.lt
        refine hK.out _ _ bu27 (fun _ => ?_)
        clear hK K bs
        refine wpAnyH_ready (rs := [3, 4]) (by kernel_rfl) (by simp) ?_
        refine AllReadyH.cons rfl (fun K hK => ?_) (AllReadyH.cons rfl (fun K hK => ?_) AllReadyH.nil)
        · go_simp
          refine (CDb.out u27 (BL5.out.trans (bu27.mono BL5.out.size))).mono ?_
          rintro e u28 ⟨rfl, bs⟩
          have bu28 : Below w5.heap.size w5 u28 := bu27.trans (bs.mono bu27.size)
          have kBu28 := kBu27.below bs kBu27.lt
          refine hK.out _ _ bu28 (fun _ => ?_)
          clear hK K bs
          refine wpAnyH_ready (rs := [4]) (by kernel_rfl) (by simp) ?_
          refine AllReadyH.cons rfl (fun K hK => ?_) AllReadyH.nil
          · go_simp
            have bu29 : Below w5.heap.size w5 (u28.alloc (.cells Z 34)) := bu28.alloc bu28.size _
            have kAu29 : Blk (u28.alloc (.cells Z 34)) u28.heap.size 34 Z := Blk.new _ _ _
            have kBu29 := kBu28.alloc (.cells Z 34)
            have hlt := kBu28.lt
            have hgA := bu28.size
            refine hK.out _ _ bu29 (fun _ => ?_)
            clear hK K
            obtain ⟨gA, hgx⟩ : ∃ g, g = u28.heap.size := ⟨_, rfl⟩
            rw [← hgx] at kAu29 hgA ⊢
            rw [← hgx] at hlt
            have hne : gA ≠ gB := by omega
            generalize u28.alloc (.cells Z 34) = u29 at bu29 kAu29 kBu29 ⊢
            clear hgx
            refine wpAnyH_ready (rs := [6]) (by kernel_rfl) (by simp) ?_
            refine AllReadyH.cons rfl (fun K hK => ?_) AllReadyH.nil
            rw [if_pos (by rfl)]
            refine wp_store_mid 34 (.tmp 12) (.tmp 39) rfl gA 0 KA rfl rfl (Blk.there_ kAu29 (by rw [SKA.out, ZS.out]; exact Nat.le_refl _)) (by rw [SKA.out]; exact I76.out) AKA.out ?_
            simp only [List.getElem_toArray, List.getElem_cons_succ, List.getElem_cons_zero, Act.put, List.setIfInBounds_toArray, List.set_cons_succ, List.set_cons_zero]
            have hA1 : KA.toList.length = Z.size := by rw [ZS.out, Array.length_toList]; exact SKA.out
            have gs : u29.grownBy (u29.setCells gA 0 KA.toList) (some gA) := only_setCells _ _ _ (gb_self _ _)
            have kA1 : Blk (u29.setCells gA 0 KA.toList) gA 34 KA := by have h := kAu29.setAll hA1; rwa [Array.toArray_toList] at h
            have kB1 : Blk (u29.setCells gA 0 KA.toList) gB 34 Z := kBu29.grown gs (by intro h; injection h with h; exact hne h.symm)
            have b1 : Below w5.heap.size w5 (u29.setCells gA 0 KA.toList) := grown_below bu29 gs bu29.size hgA
            refine hK.out _ _ b1 (fun _ => ?_)
            clear hK K gs hA1
            generalize u29.setCells gA 0 KA.toList = y1 at kA1 kB1 b1 ⊢
            refine wpAnyH_ready (rs := [7]) (by kernel_rfl) (by simp) ?_
            refine AllReadyH.cons rfl (fun K hK => ?_) AllReadyH.nil
            rw [if_pos (by rfl)]
            refine wp_store_mid 34 (.tmp 13) (.tmp 41) rfl gB 0 KB rfl rfl (Blk.there_ kB1 (by rw [SKB.out, ZS.out]; exact Nat.le_refl _)) (by rw [SKB.out]; exact I76.out) AKB.out ?_
            simp only [List.getElem_toArray, List.getElem_cons_succ, List.getElem_cons_zero, Act.put, List.setIfInBounds_toArray, List.set_cons_succ, List.set_cons_zero]
            have hB1 : KB.toList.length = Z.size := by rw [ZS.out, Array.length_toList]; exact SKB.out
            have gs : y1.grownBy (y1.setCells gB 0 KB.toList) (some gB) := only_setCells _ _ _ (gb_self _ _)
            have kB2 : Blk (y1.setCells gB 0 KB.toList) gB 34 KB := by have h := kB1.setAll hB1; rwa [Array.toArray_toList] at h
            have kA2 : Blk (y1.setCells gB 0 KB.toList) gA 34 KA := kA1.grown gs (by intro h; injection h with h; exact hne h)
            have b2 : Below w5.heap.size w5 (y1.setCells gB 0 KB.toList) := grown_below b1 gs b1.size hgB
            refine hK.out _ _ b2 (fun _ => ?_)
            clear hK K gs hB1
            refine wpAnyH_done (by kernel_rfl) ?_ _
            have FIN := Lib.hid (And.intro kA2 (And.intro kB2 b2))
            clear kA2 kB2 b2 kA1 kB1 b1 kAu29 kBu29 bu29
            generalize y1.setCells gB 0 KB.toList = y2 at FIN ⊢
            go_wp2_with fail
            go_meet
            exact ⟨gA, gB, rfl, rfl, FIN⟩
        · go_simp
          have bu30 : Below w5.heap.size w5 (u27.alloc (.cells Z 34)) := bu27.alloc bu27.size _
          have kAu30 : Blk (u27.alloc (.cells Z 34)) u27.heap.size 34 Z := Blk.new _ _ _
          have kBu30 := kBu27.alloc (.cells Z 34)
          have hlt := kBu27.lt
          have hgA := bu27.size
          refine hK.out _ _ bu30 (fun _ => ?_)
          clear hK K
          obtain ⟨gA, hgx⟩ : ∃ g, g = u27.heap.size := ⟨_, rfl⟩
          rw [← hgx] at kAu30 hgA ⊢
          rw [← hgx] at hlt
          have hne : gA ≠ gB := by omega
          generalize u27.alloc (.cells Z 34) = u30 at bu30 kAu30 kBu30 ⊢
          clear hgx
          refine wpAnyH_ready (rs := [3]) (by kernel_rfl) (by simp) ?_
          refine AllReadyH.cons rfl (fun K hK => ?_) AllReadyH.nil
          · go_simp
            refine (CDb.out u30 (BL5.out.trans (bu30.mono BL5.out.size))).mono ?_
            rintro e u31 ⟨rfl, bs⟩
            have bu31 : Below w5.heap.size w5 u31 := bu30.trans (bs.mono bu30.size)
            have kAu31 := kAu30.below bs kAu30.lt
            have kBu31 := kBu30.below bs kBu30.lt
            refine hK.out _ _ bu31 (fun _ => ?_)
            clear hK K bs
            refine wpAnyH_ready (rs := [6]) (by kernel_rfl) (by simp) ?_
            refine AllReadyH.cons rfl (fun K hK => ?_) AllReadyH.nil
            rw [if_pos (by rfl)]
            refine wp_store_mid 34 (.tmp 12) (.tmp 39) rfl gA 0 KA rfl rfl (Blk.there_ kAu31 (by rw [SKA.out, ZS.out]; exact Nat.le_refl _)) (by rw [SKA.out]; exact I76.out) AKA.out ?_
            simp only [List.getElem_toArray, List.getElem_cons_succ, List.getElem_cons_zero, Act.put, List.setIfInBounds_toArray, List.set_cons_succ, List.set_cons_zero]
            have hA1 : KA.toList.length = Z.size := by rw [ZS.out, Array.length_toList]; exact SKA.out
            have gs : u31.grownBy (u31.setCells gA 0 KA.toList) (some gA) := only_setCells _ _ _ (gb_self _ _)
            have kA1 : Blk (u31.setCells gA 0 KA.toList) gA 34 KA := by have h := kAu31.setAll hA1; rwa [Array.toArray_toList] at h
            have kB1 : Blk (u31.setCells gA 0 KA.toList) gB 34 Z := kBu31.grown gs (by intro h; injection h with h; exact hne h.symm)
            have b1 : Below w5.heap.size w5 (u31.setCells gA 0 KA.toList) := grown_below bu31 gs bu31.size hgA
            refine hK.out _ _ b1 (fun _ => ?_)
            clear hK K gs hA1
            generalize u31.setCells gA 0 KA.toList = y1 at kA1 kB1 b1 ⊢
            refine wpAnyH_ready (rs := [7]) (by kernel_rfl) (by simp) ?_
            refine AllReadyH.cons rfl (fun K hK => ?_) AllReadyH.nil
            rw [if_pos (by rfl)]
            refine wp_store_mid 34 (.tmp 13) (.tmp 41) rfl gB 0 KB rfl rfl (Blk.there_ kB1 (by rw [SKB.out, ZS.out]; exact Nat.le_refl _)) (by rw [SKB.out]; exact I76.out) AKB.out ?_
            simp only [List.getElem_toArray, List.getElem_cons_succ, List.getElem_cons_zero, Act.put, List.setIfInBounds_toArray, List.set_cons_succ, List.set_cons_zero]
            have hB1 : KB.toList.length = Z.size := by rw [ZS.out, Array.length_toList]; exact SKB.out
            have gs : y1.grownBy (y1.setCells gB 0 KB.toList) (some gB) := only_setCells _ _ _ (gb_self _ _)
            have kB2 : Blk (y1.setCells gB 0 KB.toList) gB 34 KB := by have h := kB1.setAll hB1; rwa [Array.toArray_toList] at h
            have kA2 : Blk (y1.setCells gB 0 KB.toList) gA 34 KA := kA1.grown gs (by intro h; injection h with h; exact hne h)
            have b2 : Below w5.heap.size w5 (y1.setCells gB 0 KB.toList) := grown_below b1 gs b1.size hgB
            refine hK.out _ _ b2 (fun _ => ?_)
            clear hK K gs hB1
            refine wpAnyH_done (by kernel_rfl) ?_ _
            have FIN := Lib.hid (And.intro kA2 (And.intro kB2 b2))
            clear kA2 kB2 b2 kA1 kB1 b1 kAu31 kBu31 bu31
            generalize y1.setCells gB 0 KB.toList = y2 at FIN ⊢
            go_wp2_with fail
            go_meet
            exact ⟨gA, gB, rfl, rfl, FIN⟩
      · go_simp
        have bu32 : Below w5.heap.size w5 (u26.alloc (.cells Z 34)) := bu26.alloc bu26.size _
        have kAu32 : Blk (u26.alloc (.cells Z 34)) u26.heap.size 34 Z := Blk.new _ _ _
        have kBu32 := kBu26.alloc (.cells Z 34)
        have hlt := kBu26.lt
        have hgA := bu26.size
        refine hK.out _ _ bu32 (fun _ => ?_)
        clear hK K
        obtain ⟨gA, hgx⟩ : ∃ g, g = u26.heap.size := ⟨_, rfl⟩
        rw [← hgx] at kAu32 hgA ⊢
        rw [← hgx] at hlt
        have hne : gA ≠ gB := by omega
        generalize u26.alloc (.cells Z 34) = u32 at bu32 kAu32 kBu32 ⊢
        clear hgx
        refine wpAnyH_ready (rs := [1]) (by kernel_rfl) (by simp) ?_
        refine AllReadyH.cons rfl (fun K hK => ?_) AllReadyH.nil
        · go_simp
          refine (CDa.out u32 (BL5.out.trans (bu32.mono BL5.out.size))).mono ?_
          rintro e u33 ⟨rfl, bs⟩
          have bu33 : Below w5.heap.size w5 u33 := bu32.trans (bs.mono bu32.size)
          have kAu33 := kAu32.below bs kAu32.lt
          have kBu33 := kBu32.below bs kBu32.lt
          refine hK.out _ _ bu33 (fun _ => ?_)
          clear hK K bs
          refine wpAnyH_ready (rs := [3]) (by kernel_rfl) (by simp) ?_
          refine AllReadyH.cons rfl (fun K hK => ?_) AllReadyH.nil
          · go_simp
            refine (CDb.out u33 (BL5.out.trans (bu33.mono BL5.out.size))).mono ?_
            rintro e u34 ⟨rfl, bs⟩
            have bu34 : Below w5.heap.size w5 u34 := bu33.trans (bs.mono bu33.size)
            have kAu34 := kAu33.below bs kAu33.lt
            have kBu34 := kBu33.below bs kBu33.lt
            refine hK.out _ _ bu34 (fun _ => ?_)
            clear hK K bs
            refine wpAnyH_ready (rs := [6]) (by kernel_rfl) (by simp) ?_
            refine AllReadyH.cons rfl (fun K hK => ?_) AllReadyH.nil
            rw [if_pos (by rfl)]
            refine wp_store_mid 34 (.tmp 12) (.tmp 39) rfl gA 0 KA rfl rfl (Blk.there_ kAu34 (by rw [SKA.out, ZS.out]; exact Nat.le_refl _)) (by rw [SKA.out]; exact I76.out) AKA.out ?_
            simp only [List.getElem_toArray, List.getElem_cons_succ, List.getElem_cons_zero, Act.put, List.setIfInBounds_toArray, List.set_cons_succ, List.set_cons_zero]
            have hA1 : KA.toList.length = Z.size := by rw [ZS.out, Array.length_toList]; exact SKA.out
            have gs : u34.grownBy (u34.setCells gA 0 KA.toList) (some gA) := only_setCells _ _ _ (gb_self _ _)
            have kA1 : Blk (u34.setCells gA 0 KA.toList) gA 34 KA := by have h := kAu34.setAll hA1; rwa [Array.toArray_toList] at h
            have kB1 : Blk (u34.setCells gA 0 KA.toList) gB 34 Z := kBu34.grown gs (by intro h; injection h with h; exact hne h.symm)
            have b1 : Below w5.heap.size w5 (u34.setCells gA 0 KA.toList) := grown_below bu34 gs bu34.size hgA
            refine hK.out _ _ b1 (fun _ => ?_)
            clear hK K gs hA1
            generalize u34.setCells gA 0 KA.toList = y1 at kA1 kB1 b1 ⊢
            refine wpAnyH_ready (rs := [7]) (by kernel_rfl) (by simp) ?_
            refine AllReadyH.cons rfl (fun K hK => ?_) AllReadyH.nil
            rw [if_pos (by rfl)]
            refine wp_store_mid 34 (.tmp 13) (.tmp 41) rfl gB 0 KB rfl rfl (Blk.there_ kB1 (by rw [SKB.out, ZS.out]; exact Nat.le_refl _)) (by rw [SKB.out]; exact I76.out) AKB.out ?_
            simp only [List.getElem_toArray, List.getElem_cons_succ, List.getElem_cons_zero, Act.put, List.setIfInBounds_toArray, List.set_cons_succ, List.set_cons_zero]
            have hB1 : KB.toList.length = Z.size := by rw [ZS.out, Array.length_toList]; exact SKB.out
            have gs : y1.grownBy (y1.setCells gB 0 KB.toList) (some gB) := only_setCells _ _ _ (gb_self _ _)
            have kB2 : Blk (y1.setCells gB 0 KB.toList) gB 34 KB := by have h := kB1.setAll hB1; rwa [Array.toArray_toList] at h
            have kA2 : Blk (y1.setCells gB 0 KB.toList) gA 34 KA := kA1.grown gs (by intro h; injection h with h; exact hne h)
            have b2 : Below w5.heap.size w5 (y1.setCells gB 0 KB.toList) := grown_below b1 gs b1.size hgB
            refine hK.out _ _ b2 (fun _ => ?_)
            clear hK K gs hB1
            refine wpAnyH_done (by kernel_rfl) ?_ _
            have FIN := Lib.hid (And.intro kA2 (And.intro kB2 b2))
            clear kA2 kB2 b2 kA1 kB1 b1 kAu34 kBu34 bu34
            generalize y1.setCells gB 0 KB.toList = y2 at FIN ⊢
            go_wp2_with fail
            go_meet
            exact ⟨gA, gB, rfl, rfl, FIN⟩
  case rest =>
    obtain ⟨g1, g2, rfl, rfl, HC5⟩ := hcut
    rename World => w6
    have b56 := HC5.out.2.2
    have BL6 := Lib.hid (BL5.out.trans (b56.mono BL5.out.size))
    have SN6 := Lib.hid (SN5.out.below b56)
    have OP6 := Lib.hid (OP5.out.below b56)
    have OQ6 := Lib.hid (OQ5.out.below b56)
    have KA6 := Lib.hid HC5.out.1
    have KB6 := Lib.hid HC5.out.2.1
    have BL6S := Lib.hid (show w.heap.size ≤ w6.heap.size from BL6.out.size)
    have C6 := Lib.hid (CC1.out gN A3 c3 w6 SN6.out (Sl.of_own OP6.out) (HT.out.below BL6.out))
    clear b56 HC5 BL5 SN5 OP5 OQ5 S5 T5
    go_upto_region 10 with (first
      | refine wpList_load_row rfl 34 (.tmp 12) rfl g1 rfl 34 KA (0, 0) _ KA6.out Tryd.underlying34 rfl (by rw [SKA.out]; exact I76.out) ?_
      | (go_at_call 11; (with_reducible refine C6.out.mono ?_); rintro e w7 ⟨A9, c9, rfl, o9, b9⟩
         obtain ⟨gp, hA9, hgp, hlp⟩ := o9.form HL1.out
         subst hA9
         have BL7 := Lib.hid (BL6.out.trans (b9.mono BL6.out.size))
         have SN7 := Lib.hid (SN6.out.below b9)
         have OP7 := Lib.hid (OP6.out.below b9)
         have OQ7 := Lib.hid (OQ6.out.below b9)
         have KA7 := Lib.hid (KA6.out.below b9 KA6.out.lt)
         have KB7 := Lib.hid (KB6.out.below b9 KB6.out.lt)
         have O97 := Lib.hid (o9.base_le BL6.out.size)
         have GP := Lib.hid (show w6.heap.size ≤ gp ∧ gp < w7.heap.size from ⟨hgp, hlp⟩)
         have GK := Lib.hid (show g1 < w6.heap.size ∧ g2 < w6.heap.size from ⟨KA6.out.lt, KB6.out.lt⟩)
         have GPQ := Lib.hid (show (∀ g, A3 = some ⟨g, 0, none⟩ → g ≠ gp) ∧ (∀ g, A4 = some ⟨g, 0, none⟩ → g ≠ gp) from ⟨fun g h => by have := (OP6.out.lt_of g h).2; omega, fun g h => by have := (OQ6.out.lt_of g h).2; omega⟩)
         have C7 := Lib.hid (CC2.out gN A4 c4 w7 SN7.out (Sl.of_own OQ7.out) (HT.out.below BL7.out))
         clear o9 b9 hgp hlp)
      | refine wpList_load_row rfl 34 (.tmp 13) rfl g2 rfl 34 KB (0, 0) _ KB7.out Tryd.underlying34 rfl (by rw [SKB.out]; exact I76.out) ?_
      | (go_at_call 11; (with_reducible refine C7.out.mono ?_); rintro e w10 ⟨Ab, cb, rfl, ob, b10⟩
         have BL10 := Lib.hid (BL7.out.trans (b10.mono BL7.out.size))
         have OP10 := Lib.hid (OP7.out.below b10)
         have OQ10 := Lib.hid (OQ7.out.below b10)
         have KA10 := Lib.hid (KA7.out.below b10 KA7.out.lt)
         have KB10 := Lib.hid (KB7.out.below b10 KB7.out.lt)
         have O910 := Lib.hid (O97.out.below b10)
         have OB10 := Lib.hid ob
         have GB := Lib.hid (show ∀ g, Ab = some ⟨g, 0, none⟩ → g ≠ gp from fun g h => by have := (ob.lt_of g h).1; have := GP.out.2; omega)
         clear ob b10))
    clear C7 C6 SN7 OP7 OQ7 KA7 KB7 O97 BL7 SN6 OP6 OQ6 KA6 KB6 BL6
    go_cut [18, 19, 20, 21, 22] (fun p v1 v2 v3 v4 wx => ∃ gX D3 f3 D4 f4, p = .pointer (some ⟨gX, 0, none⟩) ∧ v1 = .int .u64 pk ∧ v2 = .slice D3 P.length f3 ∧ v3 = .slice D4 PK2.length f4 ∧ v4 = .int .i64 0 ∧ Hid (wx.cell? ⟨gX, 1, none⟩ = some (.int .i64 0) ∧ Rd wx D3 P ∧ Sl wx D4 f4 PK2 ∧ w10.grownBy wx (some gp)))
    case first =>
      obtain ⟨ZH, hZH⟩ : ∃ ZH : Array Value, ZH = #[.bool false, .int .i64 0, .bool false, .slice none 0 0, .slice none 0 0] := ⟨_, rfl⟩
      have hzh : ∀ w, (zeroValue 25).run Tryd.prog w = .ok (.agg ZH) w := by rw [hZH]; exact fun w => rfl
      have SZH := Lib.hid (show ZH.size = 5 by rw [hZH]; rfl)
      clear hZH
      obtain ⟨v0, hv0⟩ : ∃ v0, v0 = w10.drew := ⟨_, rfl⟩
      have bv0 : w10.grownBy v0 (some gp) := by rw [hv0]; exact ⟨rfl, rfl, rfl, Nat.le_refl _, fun _ _ _ => rfl⟩
      have o9v0 : Own v0 w.heap.size (some ⟨gp, 0, none⟩) c9 PK1 := by rw [hv0]; exact O910.out
      have r9v0 : Rd v0 Ab PK2 := by rw [hv0]; exact Rd.of_own OB10.out
      have hwv0 : w.heap.size ≤ v0.heap.size := by rw [hv0]; exact BL10.out.size
      refine wp_region_held_drew (S := fun w' => w10.grownBy w' (some gp)) (by kernel_rfl) (by rw [← hv0]; exact bv0) (fun _ => ?_)
      rw [← hv0]
      clear hv0
      refine wpAnyH_take (i := 0) (oi := ⟨_, _, _, _, _, _⟩) rfl (by kernel_rfl) (by kernel_rfl) (by kernel_rfl) (fun _ _ _ h => h) (yieldsIf_load_mid (by rfl) 34 (.tmp 12) rfl g1 0 rfl KA.toList _ (fun w h => (KA10.out.grown h (by intro e; injection e with e; have h1 := GK.out; have h2 := GP.out; omega)).range) huQ rfl hiKA.out) bv0 ?_
      simp only [Act.put, List.setIfInBounds_toArray, List.set_cons_zero, List.set_cons_succ]
      refine wpAnyH_take (i := 1) (oi := ⟨_, _, _, _, _, _⟩) (v := (.slice (some ⟨gp, 0, none⟩) PK1.length c9)) rfl (by kernel_rfl) (by kernel_rfl) (by kernel_rfl) (fun _ _ _ h => h) (Or.inl ⟨by rfl, fun w _ => rfl⟩) bv0 ?_
      simp only [Act.put, List.setIfInBounds_toArray, List.set_cons_zero, List.set_cons_succ]
      refine wpAnyH_take (i := 2) (oi := ⟨_, _, _, _, _, _⟩) (v := (.slice Ab PK2.length cb)) rfl (by kernel_rfl) (by kernel_rfl) (by kernel_rfl) (fun _ _ _ h => h) (Or.inl ⟨by rfl, fun w _ => rfl⟩) bv0 ?_
      simp only [Act.put, List.setIfInBounds_toArray, List.set_cons_zero, List.set_cons_succ]
      refine wpAnyH_take (i := 4) (oi := ⟨_, _, _, _, _, _⟩) (v := (.int .u64 pk)) rfl (by kernel_rfl) (by kernel_rfl) (by kernel_rfl) (fun _ _ _ h => h) (Or.inl ⟨by rfl, fun w _ => rfl⟩) bv0 ?_
      simp only [Act.put, List.setIfInBounds_toArray, List.set_cons_zero, List.set_cons_succ]
      refine wpAnyH_ready (rs := [3, 12]) (by kernel_rfl) (by simp) ?_
      refine AllReadyH.cons rfl (fun K hK => ?_) (AllReadyH.cons rfl (fun K hK => ?_) AllReadyH.nil)
      · refine step_appV rfl (.tmp 69) (.tmp 70) 23 5 1 1 (.int .u8 0) rfl Tryd.underlying23 info_u8 rfl (by decide) w.heap.size (c := c9) (d := cb) (n := PK1.length) (m := PK2.length) (A := some ⟨gp, 0, none⟩) (B := Ab) rfl rfl o9v0 r9v0 (U8_oneCell _) (by have h := LX.out; unfold maxLen; omega) (by have h := LX.out; omega) hwv0 ?_
        intro Aa ca v1 oa ga ba _
        have bv1 : w10.grownBy v1 (some gp) := only_trans bv0 ga
        have oav1 := own_appV oa rfl
        rw [HX0.out] at oav1
        rw [show PK1.length + PK2.length = X.length from LXX.out]
        have hwv1 : w.heap.size ≤ v1.heap.size := Nat.le_trans hwv0 ga.size
        refine hK.out _ _ bv1 (fun _ => ?_)
        clear hK K oa ga ba o9v0 r9v0
        simp only [List.getElem_toArray, List.getElem_cons_succ, List.getElem_cons_zero, Act.put, List.setIfInBounds_toArray, List.set_cons_succ, List.set_cons_zero]
        refine wpAnyH_ready (rs := [5, 12]) (by kernel_rfl) (by simp) ?_
        refine AllReadyH.cons rfl (fun K hK => ?_) (AllReadyH.cons rfl (fun K hK => ?_) AllReadyH.nil)
        · go_simp
          refine (COp.out Aa ca v1 (Sl.of_own oav1)).mono ?_
          rintro e v2 ⟨D1, f1, D2, f2, D3, f3, D4, f4, rfl, o1, o2, o3, o4, bs⟩
          obtain ⟨HX, hHX⟩ : ∃ HX : Array Value, HX = #[.bool true, .int .i64 0, .bool false, .slice D1 ([49, 50, 51, 52, 53, 54, 55, 56] : List Int).length f1, .slice D2 ([] : List Int).length f2] := ⟨_, rfl⟩
          rw [← hHX]
          have HHX := Lib.hid hHX
          have SHX := Lib.hid (show HX.size = 5 by rw [hHX]; rfl)
          have AHX := Lib.hid (show HX.all (·.oneCell') = true by rw [hHX]; simp [Value.oneCell'])
          clear hHX
          have bv2 : w10.grownBy v2 (some gp) := only_trans bv1 (only_of_below bs _)
          have hwv2 : w.heap.size ≤ v2.heap.size := Nat.le_trans hwv1 bs.size
          have p3v2 := o3
          have p4v2 := o4
          refine hK.out _ _ bv2 (fun _ => ?_)
          clear hK K o1 o2 o3 o4 bs oav1
          refine wpAnyH_take (i := 6) (oi := ⟨_, _, _, _, _, _⟩) (v := (.tuple #[.agg HX, .int .u64 pk, .slice D3 P.length f3, .slice D4 PK2.length f4, .int .i64 0])) rfl (by kernel_rfl) (by kernel_rfl) (by kernel_rfl) (fun _ _ _ h => h) (Or.inl ⟨by rfl, fun w _ => rfl⟩) bv2 ?_
          simp only [Act.put, List.setIfInBounds_toArray, List.set_cons_zero, List.set_cons_succ]
          refine wpAnyH_take (i := 7) (oi := ⟨_, _, _, _, _, _⟩) (v := (.agg HX)) rfl (by kernel_rfl) (by kernel_rfl) (by kernel_rfl) (fun _ _ _ h => h) (Or.inl ⟨by rfl, fun w _ => rfl⟩) bv2 ?_
          simp only [Act.put, List.setIfInBounds_toArray, List.set_cons_zero, List.set_cons_succ]
          refine wpAnyH_take (i := 8) (oi := ⟨_, _, _, _, _, _⟩) (v := (.int .u64 pk)) rfl (by kernel_rfl) (by kernel_rfl) (by kernel_rfl) (fun _ _ _ h => h) (Or.inl ⟨by rfl, fun w _ => rfl⟩) bv2 ?_
          simp only [Act.put, List.setIfInBounds_toArray, List.set_cons_zero, List.set_cons_succ]
          refine wpAnyH_take (i := 9) (oi := ⟨_, _, _, _, _, _⟩) (v := (.slice D3 P.length f3)) rfl (by kernel_rfl) (by kernel_rfl) (by kernel_rfl) (fun _ _ _ h => h) (Or.inl ⟨by rfl, fun w _ => rfl⟩) bv2 ?_
          simp only [Act.put, List.setIfInBounds_toArray, List.set_cons_zero, List.set_cons_succ]
          refine wpAnyH_take (i := 10) (oi := ⟨_, _, _, _, _, _⟩) (v := (.slice D4 PK2.length f4)) rfl (by kernel_rfl) (by kernel_rfl) (by kernel_rfl) (fun _ _ _ h => h) (Or.inl ⟨by rfl, fun w _ => rfl⟩) bv2 ?_
          simp only [Act.put, List.setIfInBounds_toArray, List.set_cons_zero, List.set_cons_succ]
          refine wpAnyH_take (i := 11) (oi := ⟨_, _, _, _, _, _⟩) (v := (.int .i64 0)) rfl (by kernel_rfl) (by kernel_rfl) (by kernel_rfl) (fun _ _ _ h => h) (Or.inl ⟨by rfl, fun w _ => rfl⟩) bv2 ?_
          simp only [Act.put, List.setIfInBounds_toArray, List.set_cons_zero, List.set_cons_succ]
          refine wpAnyH_ready (rs := [12]) (by kernel_rfl) (by simp) ?_
          refine AllReadyH.cons rfl (fun K hK => ?_) AllReadyH.nil
          · go_simp
            have bs : Below v2.heap.size v2 (v2.alloc (.cells ZH 25)) := (Below.refl _ _).alloc (Nat.le_refl _) _
            have bv3 : w10.grownBy (v2.alloc (.cells ZH 25)) (some gp) := only_trans bv2 (only_of_below bs _)
            have kv3 : Blk (v2.alloc (.cells ZH 25)) v2.heap.size 25 ZH := Blk.new _ _ _
            have hwv3 : w.heap.size ≤ (v2.alloc (.cells ZH 25)).heap.size := Nat.le_trans hwv2 bs.size
            have p3v3 := p3v2.below bs
            have p4v3 := p4v2.below bs
            have hgX := bv2.size
            refine hK.out _ _ bv3 (fun _ => ?_)
            clear hK K bs
            obtain ⟨gX, hgx⟩ : ∃ g, g = v2.heap.size := ⟨_, rfl⟩
            rw [← hgx] at kv3 hgX ⊢
            generalize v2.alloc (.cells ZH 25) = v3 at bv3 kv3 hwv3 p3v3 p4v3 ⊢
            clear hgx
            refine wpAnyH_ready (rs := [13]) (by kernel_rfl) (by simp) ?_
            refine AllReadyH.cons rfl (fun K hK => ?_) AllReadyH.nil
            rw [if_pos (by rfl)]
            refine wp_store_mid 25 (.tmp 18) (.tmp 74) rfl gX 0 HX rfl rfl (Blk.there_ kv3 (by rw [SHX.out, SZH.out]; exact Nat.le_refl _)) (by rw [SHX.out]; exact IH.out) AHX.out ?_
            simp only [List.getElem_toArray, List.getElem_cons_succ, List.getElem_cons_zero, Act.put, List.setIfInBounds_toArray, List.set_cons_succ, List.set_cons_zero]
            have hHl : HX.toList.length = ZH.size := by rw [SZH.out, Array.length_toList]; exact SHX.out
            have gs : v3.grownBy (v3.setCells gX 0 HX.toList) (some gX) := only_setCells _ _ _ (gb_self _ _)
            have ks : Blk (v3.setCells gX 0 HX.toList) gX 25 HX := by have h := kv3.setAll hHl; rwa [Array.toArray_toList] at h
            have bs : w10.grownBy (v3.setCells gX 0 HX.toList) (some gp) := only_two bv3 gs hgX
            have p3s := Own.grown p3v3 gs (fun g cur k' e => by injection e with e; subst e; exact absurd rfl (k'.ne_ kv3 (by decide)))
            have p4s := Own.grown p4v3 gs (fun g cur k' e => by injection e with e; subst e; exact absurd rfl (k'.ne_ kv3 (by decide)))
            refine hK.out _ _ bs (fun hHs => ?_)
            clear hK K
            refine wpAnyH_take (i := 14) (oi := ⟨_, _, _, _, _, _⟩) (v := (.int .u64 pk)) rfl (by kernel_rfl) (by kernel_rfl) (by kernel_rfl) (fun _ _ _ h => h) (Or.inl ⟨by rfl, fun w _ => rfl⟩) hHs ?_
            simp only [Act.put, List.setIfInBounds_toArray, List.set_cons_zero, List.set_cons_succ]
            refine wpAnyH_take (i := 15) (oi := ⟨_, _, _, _, _, _⟩) (v := (.slice D3 P.length f3)) rfl (by kernel_rfl) (by kernel_rfl) (by kernel_rfl) (fun _ _ _ h => h) (Or.inl ⟨by rfl, fun w _ => rfl⟩) hHs ?_
            simp only [Act.put, List.setIfInBounds_toArray, List.set_cons_zero, List.set_cons_succ]
            refine wpAnyH_take (i := 16) (oi := ⟨_, _, _, _, _, _⟩) (v := (.slice D4 PK2.length f4)) rfl (by kernel_rfl) (by kernel_rfl) (by kernel_rfl) (fun _ _ _ h => h) (Or.inl ⟨by rfl, fun w _ => rfl⟩) hHs ?_
            simp only [Act.put, List.setIfInBounds_toArray, List.set_cons_zero, List.set_cons_succ]
            refine wpAnyH_take (i := 17) (oi := ⟨_, _, _, _, _, _⟩) (v := (.int .i64 0)) rfl (by kernel_rfl) (by kernel_rfl) (by kernel_rfl) (fun _ _ _ h => h) (Or.inl ⟨by rfl, fun w _ => rfl⟩) hHs ?_
            simp only [Act.put, List.setIfInBounds_toArray, List.set_cons_zero, List.set_cons_succ]
            refine wpAnyH_done (by kernel_rfl) ?_ _
            have FIN : Hid ((v3.setCells gX 0 HX.toList).cell? ⟨gX, 1, none⟩ = some (.int .i64 0) ∧ Rd (v3.setCells gX 0 HX.toList) D3 P ∧ Sl (v3.setCells gX 0 HX.toList) D4 f4 PK2 ∧ w10.grownBy (v3.setCells gX 0 HX.toList) (some gp)) := Lib.hid ⟨by rw [ks.cell 1, HHX.out]; rfl, Rd.of_own p3s, Sl.of_own p4s, bs⟩
            clear ks p3s p4s bs gs hHs kv3 p3v3 p4v3 bv3
            generalize v3.setCells gX 0 HX.toList = wz at FIN ⊢
            go_wp2_with fail
            go_meet
            exact ⟨gX, D3, f3, D4, f4, rfl, rfl, rfl, rfl, rfl, FIN⟩
        · go_simp
          have bs : Below v1.heap.size v1 (v1.alloc (.cells ZH 25)) := (Below.refl _ _).alloc (Nat.le_refl _) _
          have bv4 : w10.grownBy (v1.alloc (.cells ZH 25)) (some gp) := only_trans bv1 (only_of_below bs _)
          have kv4 : Blk (v1.alloc (.cells ZH 25)) v1.heap.size 25 ZH := Blk.new _ _ _
          have hwv4 : w.heap.size ≤ (v1.alloc (.cells ZH 25)).heap.size := Nat.le_trans hwv1 bs.size
          have oav4 := oav1.below bs
          have hgX := bv1.size
          refine hK.out _ _ bv4 (fun _ => ?_)
          clear hK K bs
          obtain ⟨gX, hgx⟩ : ∃ g, g = v1.heap.size := ⟨_, rfl⟩
          rw [← hgx] at kv4 hgX ⊢
          generalize v1.alloc (.cells ZH 25) = v4 at bv4 kv4 hwv4 oav4 ⊢
          clear hgx
          refine wpAnyH_ready (rs := [5]) (by kernel_rfl) (by simp) ?_
          refine AllReadyH.cons rfl (fun K hK => ?_) AllReadyH.nil
          · go_simp
            refine (COp.out Aa ca v4 (Sl.of_own oav4)).mono ?_
            rintro e v5 ⟨D1, f1, D2, f2, D3, f3, D4, f4, rfl, o1, o2, o3, o4, bs⟩
            obtain ⟨HX, hHX⟩ : ∃ HX : Array Value, HX = #[.bool true, .int .i64 0, .bool false, .slice D1 ([49, 50, 51, 52, 53, 54, 55, 56] : List Int).length f1, .slice D2 ([] : List Int).length f2] := ⟨_, rfl⟩
            rw [← hHX]
            have HHX := Lib.hid hHX
            have SHX := Lib.hid (show HX.size = 5 by rw [hHX]; rfl)
            have AHX := Lib.hid (show HX.all (·.oneCell') = true by rw [hHX]; simp [Value.oneCell'])
            clear hHX
            have bv5 : w10.grownBy v5 (some gp) := only_trans bv4 (only_of_below bs _)
            have hwv5 : w.heap.size ≤ v5.heap.size := Nat.le_trans hwv4 bs.size
            have p3v5 := o3
            have p4v5 := o4
            have kv5 := kv4.below bs kv4.lt
            refine hK.out _ _ bv5 (fun _ => ?_)
            clear hK K o1 o2 o3 o4 bs oav4
            refine wpAnyH_take (i := 6) (oi := ⟨_, _, _, _, _, _⟩) (v := (.tuple #[.agg HX, .int .u64 pk, .slice D3 P.length f3, .slice D4 PK2.length f4, .int .i64 0])) rfl (by kernel_rfl) (by kernel_rfl) (by kernel_rfl) (fun _ _ _ h => h) (Or.inl ⟨by rfl, fun w _ => rfl⟩) bv5 ?_
            simp only [Act.put, List.setIfInBounds_toArray, List.set_cons_zero, List.set_cons_succ]
            refine wpAnyH_take (i := 7) (oi := ⟨_, _, _, _, _, _⟩) (v := (.agg HX)) rfl (by kernel_rfl) (by kernel_rfl) (by kernel_rfl) (fun _ _ _ h => h) (Or.inl ⟨by rfl, fun w _ => rfl⟩) bv5 ?_
            simp only [Act.put, List.setIfInBounds_toArray, List.set_cons_zero, List.set_cons_succ]
            refine wpAnyH_take (i := 8) (oi := ⟨_, _, _, _, _, _⟩) (v := (.int .u64 pk)) rfl (by kernel_rfl) (by kernel_rfl) (by kernel_rfl) (fun _ _ _ h => h) (Or.inl ⟨by rfl, fun w _ => rfl⟩) bv5 ?_
            simp only [Act.put, List.setIfInBounds_toArray, List.set_cons_zero, List.set_cons_succ]
            refine wpAnyH_take (i := 9) (oi := ⟨_, _, _, _, _, _⟩) (v := (.slice D3 P.length f3)) rfl (by kernel_rfl) (by kernel_rfl) (by kernel_rfl) (fun _ _ _ h => h) (Or.inl ⟨by rfl, fun w _ => rfl⟩) bv5 ?_
            simp only [Act.put, List.setIfInBounds_toArray, List.set_cons_zero, List.set_cons_succ]
            refine wpAnyH_take (i := 10) (oi := ⟨_, _, _, _, _, _⟩) (v := (.slice D4 PK2.length f4)) rfl (by kernel_rfl) (by kernel_rfl) (by kernel_rfl) (fun _ _ _ h => h) (Or.inl ⟨by rfl, fun w _ => rfl⟩) bv5 ?_
            simp only [Act.put, List.setIfInBounds_toArray, List.set_cons_zero, List.set_cons_succ]
            refine wpAnyH_take (i := 11) (oi := ⟨_, _, _, _, _, _⟩) (v := (.int .i64 0)) rfl (by kernel_rfl) (by kernel_rfl) (by kernel_rfl) (fun _ _ _ h => h) (Or.inl ⟨by rfl, fun w _ => rfl⟩) bv5 ?_
            simp only [Act.put, List.setIfInBounds_toArray, List.set_cons_zero, List.set_cons_succ]
            refine wpAnyH_ready (rs := [13]) (by kernel_rfl) (by simp) ?_
            refine AllReadyH.cons rfl (fun K hK => ?_) AllReadyH.nil
            rw [if_pos (by rfl)]
            refine wp_store_mid 25 (.tmp 18) (.tmp 74) rfl gX 0 HX rfl rfl (Blk.there_ kv5 (by rw [SHX.out, SZH.out]; exact Nat.le_refl _)) (by rw [SHX.out]; exact IH.out) AHX.out ?_
            simp only [List.getElem_toArray, List.getElem_cons_succ, List.getElem_cons_zero, Act.put, List.setIfInBounds_toArray, List.set_cons_succ, List.set_cons_zero]
            have hHl : HX.toList.length = ZH.size := by rw [SZH.out, Array.length_toList]; exact SHX.out
            have gs : v5.grownBy (v5.setCells gX 0 HX.toList) (some gX) := only_setCells _ _ _ (gb_self _ _)
            have ks : Blk (v5.setCells gX 0 HX.toList) gX 25 HX := by have h := kv5.setAll hHl; rwa [Array.toArray_toList] at h
            have bs : w10.grownBy (v5.setCells gX 0 HX.toList) (some gp) := only_two bv5 gs hgX
            have p3s := Own.grown p3v5 gs (fun g cur k' e => by injection e with e; subst e; exact absurd rfl (k'.ne_ kv5 (by decide)))
            have p4s := Own.grown p4v5 gs (fun g cur k' e => by injection e with e; subst e; exact absurd rfl (k'.ne_ kv5 (by decide)))
            refine hK.out _ _ bs (fun hHs => ?_)
            clear hK K
            refine wpAnyH_take (i := 14) (oi := ⟨_, _, _, _, _, _⟩) (v := (.int .u64 pk)) rfl (by kernel_rfl) (by kernel_rfl) (by kernel_rfl) (fun _ _ _ h => h) (Or.inl ⟨by rfl, fun w _ => rfl⟩) hHs ?_
            simp only [Act.put, List.setIfInBounds_toArray, List.set_cons_zero, List.set_cons_succ]
            refine wpAnyH_take (i := 15) (oi := ⟨_, _, _, _, _, _⟩) (v := (.slice D3 P.length f3)) rfl (by kernel_rfl) (by kernel_rfl) (by kernel_rfl) (fun _ _ _ h => h) (Or.inl ⟨by rfl, fun w _ => rfl⟩) hHs ?_
            simp only [Act.put, List.setIfInBounds_toArray, List.set_cons_zero, List.set_cons_succ]
            refine wpAnyH_take (i := 16) (oi := ⟨_, _, _, _, _, _⟩) (v := (.slice D4 PK2.length f4)) rfl (by kernel_rfl) (by kernel_rfl) (by kernel_rfl) (fun _ _ _ h => h) (Or.inl ⟨by rfl, fun w _ => rfl⟩) hHs ?_
            simp only [Act.put, List.setIfInBounds_toArray, List.set_cons_zero, List.set_cons_succ]
            refine wpAnyH_take (i := 17) (oi := ⟨_, _, _, _, _, _⟩) (v := (.int .i64 0)) rfl (by kernel_rfl) (by kernel_rfl) (by kernel_rfl) (fun _ _ _ h => h) (Or.inl ⟨by rfl, fun w _ => rfl⟩) hHs ?_
            simp only [Act.put, List.setIfInBounds_toArray, List.set_cons_zero, List.set_cons_succ]
            refine wpAnyH_done (by kernel_rfl) ?_ _
            have FIN : Hid ((v5.setCells gX 0 HX.toList).cell? ⟨gX, 1, none⟩ = some (.int .i64 0) ∧ Rd (v5.setCells gX 0 HX.toList) D3 P ∧ Sl (v5.setCells gX 0 HX.toList) D4 f4 PK2 ∧ w10.grownBy (v5.setCells gX 0 HX.toList) (some gp)) := Lib.hid ⟨by rw [ks.cell 1, HHX.out]; rfl, Rd.of_own p3s, Sl.of_own p4s, bs⟩
            clear ks p3s p4s bs gs hHs kv5 p3v5 p4v5 bv5
            generalize v5.setCells gX 0 HX.toList = wz at FIN ⊢
            go_wp2_with fail
            go_meet
            exact ⟨gX, D3, f3, D4, f4, rfl, rfl, rfl, rfl, rfl, FIN⟩
      · go_simp
        have bs : Below v0.heap.size v0 (v0.alloc (.cells ZH 25)) := (Below.refl _ _).alloc (Nat.le_refl _) _
        have bv6 : w10.grownBy (v0.alloc (.cells ZH 25)) (some gp) := only_trans bv0 (only_of_below bs _)
        have kv6 : Blk (v0.alloc (.cells ZH 25)) v0.heap.size 25 ZH := Blk.new _ _ _
        have hwv6 : w.heap.size ≤ (v0.alloc (.cells ZH 25)).heap.size := Nat.le_trans hwv0 bs.size
        have o9v6 := o9v0.below bs
        have r9v6 := Rd.below r9v0 bs
        have hgX := bv0.size
        refine hK.out _ _ bv6 (fun _ => ?_)
        clear hK K bs
        obtain ⟨gX, hgx⟩ : ∃ g, g = v0.heap.size := ⟨_, rfl⟩
        rw [← hgx] at kv6 hgX ⊢
        generalize v0.alloc (.cells ZH 25) = v6 at bv6 kv6 hwv6 o9v6 r9v6 ⊢
        clear hgx
        refine wpAnyH_ready (rs := [3]) (by kernel_rfl) (by simp) ?_
        refine AllReadyH.cons rfl (fun K hK => ?_) AllReadyH.nil
        · refine step_appV rfl (.tmp 69) (.tmp 70) 23 5 1 1 (.int .u8 0) rfl Tryd.underlying23 info_u8 rfl (by decide) w.heap.size (c := c9) (d := cb) (n := PK1.length) (m := PK2.length) (A := some ⟨gp, 0, none⟩) (B := Ab) rfl rfl o9v6 r9v6 (U8_oneCell _) (by have h := LX.out; unfold maxLen; omega) (by have h := LX.out; omega) hwv6 ?_
          intro Aa ca v7 oa ga ba _
          have bv7 : w10.grownBy v7 (some gp) := only_trans bv6 ga
          have oav7 := own_appV oa rfl
          rw [HX0.out] at oav7
          rw [show PK1.length + PK2.length = X.length from LXX.out]
          have hwv7 : w.heap.size ≤ v7.heap.size := Nat.le_trans hwv6 ga.size
          have kv7 := blk_app kv6 o9v6 ga
          refine hK.out _ _ bv7 (fun _ => ?_)
          clear hK K oa ga ba o9v6 r9v6
          simp only [List.getElem_toArray, List.getElem_cons_succ, List.getElem_cons_zero, Act.put, List.setIfInBounds_toArray, List.set_cons_succ, List.set_cons_zero]
          refine wpAnyH_ready (rs := [5]) (by kernel_rfl) (by simp) ?_
          refine AllReadyH.cons rfl (fun K hK => ?_) AllReadyH.nil
          · go_simp
            refine (COp.out Aa ca v7 (Sl.of_own oav7)).mono ?_
            rintro e v8 ⟨D1, f1, D2, f2, D3, f3, D4, f4, rfl, o1, o2, o3, o4, bs⟩
            obtain ⟨HX, hHX⟩ : ∃ HX : Array Value, HX = #[.bool true, .int .i64 0, .bool false, .slice D1 ([49, 50, 51, 52, 53, 54, 55, 56] : List Int).length f1, .slice D2 ([] : List Int).length f2] := ⟨_, rfl⟩
            rw [← hHX]
            have HHX := Lib.hid hHX
            have SHX := Lib.hid (show HX.size = 5 by rw [hHX]; rfl)
            have AHX := Lib.hid (show HX.all (·.oneCell') = true by rw [hHX]; simp [Value.oneCell'])
            clear hHX
            have bv8 : w10.grownBy v8 (some gp) := only_trans bv7 (only_of_below bs _)
            have hwv8 : w.heap.size ≤ v8.heap.size := Nat.le_trans hwv7 bs.size
            have p3v8 := o3
            have p4v8 := o4
            have kv8 := kv7.below bs kv7.lt
            refine hK.out _ _ bv8 (fun _ => ?_)
            clear hK K o1 o2 o3 o4 bs oav7
            refine wpAnyH_take (i := 6) (oi := ⟨_, _, _, _, _, _⟩) (v := (.tuple #[.agg HX, .int .u64 pk, .slice D3 P.length f3, .slice D4 PK2.length f4, .int .i64 0])) rfl (by kernel_rfl) (by kernel_rfl) (by kernel_rfl) (fun _ _ _ h => h) (Or.inl ⟨by rfl, fun w _ => rfl⟩) bv8 ?_
            simp only [Act.put, List.setIfInBounds_toArray, List.set_cons_zero, List.set_cons_succ]
            refine wpAnyH_take (i := 7) (oi := ⟨_, _, _, _, _, _⟩) (v := (.agg HX)) rfl (by kernel_rfl) (by kernel_rfl) (by kernel_rfl) (fun _ _ _ h => h) (Or.inl ⟨by rfl, fun w _ => rfl⟩) bv8 ?_
            simp only [Act.put, List.setIfInBounds_toArray, List.set_cons_zero, List.set_cons_succ]
            refine wpAnyH_take (i := 8) (oi := ⟨_, _, _, _, _, _⟩) (v := (.int .u64 pk)) rfl (by kernel_rfl) (by kernel_rfl) (by kernel_rfl) (fun _ _ _ h => h) (Or.inl ⟨by rfl, fun w _ => rfl⟩) bv8 ?_
            simp only [Act.put, List.setIfInBounds_toArray, List.set_cons_zero, List.set_cons_succ]
            refine wpAnyH_take (i := 9) (oi := ⟨_, _, _, _, _, _⟩) (v := (.slice D3 P.length f3)) rfl (by kernel_rfl) (by kernel_rfl) (by kernel_rfl) (fun _ _ _ h => h) (Or.inl ⟨by rfl, fun w _ => rfl⟩) bv8 ?_
            simp only [Act.put, List.setIfInBounds_toArray, List.set_cons_zero, List.set_cons_succ]
            refine wpAnyH_take (i := 10) (oi := ⟨_, _, _, _, _, _⟩) (v := (.slice D4 PK2.length f4)) rfl (by kernel_rfl) (by kernel_rfl) (by kernel_rfl) (fun _ _ _ h => h) (Or.inl ⟨by rfl, fun w _ => rfl⟩) bv8 ?_
            simp only [Act.put, List.setIfInBounds_toArray, List.set_cons_zero, List.set_cons_succ]
            refine wpAnyH_take (i := 11) (oi := ⟨_, _, _, _, _, _⟩) (v := (.int .i64 0)) rfl (by kernel_rfl) (by kernel_rfl) (by kernel_rfl) (fun _ _ _ h => h) (Or.inl ⟨by rfl, fun w _ => rfl⟩) bv8 ?_
            simp only [Act.put, List.setIfInBounds_toArray, List.set_cons_zero, List.set_cons_succ]
            refine wpAnyH_ready (rs := [13]) (by kernel_rfl) (by simp) ?_
            refine AllReadyH.cons rfl (fun K hK => ?_) AllReadyH.nil
            rw [if_pos (by rfl)]
            refine wp_store_mid 25 (.tmp 18) (.tmp 74) rfl gX 0 HX rfl rfl (Blk.there_ kv8 (by rw [SHX.out, SZH.out]; exact Nat.le_refl _)) (by rw [SHX.out]; exact IH.out) AHX.out ?_
            simp only [List.getElem_toArray, List.getElem_cons_succ, List.getElem_cons_zero, Act.put, List.setIfInBounds_toArray, List.set_cons_succ, List.set_cons_zero]
            have hHl : HX.toList.length = ZH.size := by rw [SZH.out, Array.length_toList]; exact SHX.out
            have gs : v8.grownBy (v8.setCells gX 0 HX.toList) (some gX) := only_setCells _ _ _ (gb_self _ _)
            have ks : Blk (v8.setCells gX 0 HX.toList) gX 25 HX := by have h := kv8.setAll hHl; rwa [Array.toArray_toList] at h
            have bs : w10.grownBy (v8.setCells gX 0 HX.toList) (some gp) := only_two bv8 gs hgX
            have p3s := Own.grown p3v8 gs (fun g cur k' e => by injection e with e; subst e; exact absurd rfl (k'.ne_ kv8 (by decide)))
            have p4s := Own.grown p4v8 gs (fun g cur k' e => by injection e with e; subst e; exact absurd rfl (k'.ne_ kv8 (by decide)))
            refine hK.out _ _ bs (fun hHs => ?_)
            clear hK K
            refine wpAnyH_take (i := 14) (oi := ⟨_, _, _, _, _, _⟩) (v := (.int .u64 pk)) rfl (by kernel_rfl) (by kernel_rfl) (by kernel_rfl) (fun _ _ _ h => h) (Or.inl ⟨by rfl, fun w _ => rfl⟩) hHs ?_
            simp only [Act.put, List.setIfInBounds_toArray, List.set_cons_zero, List.set_cons_succ]
            refine wpAnyH_take (i := 15) (oi := ⟨_, _, _, _, _, _⟩) (v := (.slice D3 P.length f3)) rfl (by kernel_rfl) (by kernel_rfl) (by kernel_rfl) (fun _ _ _ h => h) (Or.inl ⟨by rfl, fun w _ => rfl⟩) hHs ?_
            simp only [Act.put, List.setIfInBounds_toArray, List.set_cons_zero, List.set_cons_succ]
            refine wpAnyH_take (i := 16) (oi := ⟨_, _, _, _, _, _⟩) (v := (.slice D4 PK2.length f4)) rfl (by kernel_rfl) (by kernel_rfl) (by kernel_rfl) (fun _ _ _ h => h) (Or.inl ⟨by rfl, fun w _ => rfl⟩) hHs ?_
            simp only [Act.put, List.setIfInBounds_toArray, List.set_cons_zero, List.set_cons_succ]
            refine wpAnyH_take (i := 17) (oi := ⟨_, _, _, _, _, _⟩) (v := (.int .i64 0)) rfl (by kernel_rfl) (by kernel_rfl) (by kernel_rfl) (fun _ _ _ h => h) (Or.inl ⟨by rfl, fun w _ => rfl⟩) hHs ?_
            simp only [Act.put, List.setIfInBounds_toArray, List.set_cons_zero, List.set_cons_succ]
            refine wpAnyH_done (by kernel_rfl) ?_ _
            have FIN : Hid ((v8.setCells gX 0 HX.toList).cell? ⟨gX, 1, none⟩ = some (.int .i64 0) ∧ Rd (v8.setCells gX 0 HX.toList) D3 P ∧ Sl (v8.setCells gX 0 HX.toList) D4 f4 PK2 ∧ w10.grownBy (v8.setCells gX 0 HX.toList) (some gp)) := Lib.hid ⟨by rw [ks.cell 1, HHX.out]; rfl, Rd.of_own p3s, Sl.of_own p4s, bs⟩
            clear ks p3s p4s bs gs hHs kv8 p3v8 p4v8 bv8
            generalize v8.setCells gX 0 HX.toList = wz at FIN ⊢
            go_wp2_with fail
            go_meet
            exact ⟨gX, D3, f3, D4, f4, rfl, rfl, rfl, rfl, rfl, FIN⟩
    case rest =>
      obtain ⟨gX, D3, f3, D4, f4, rfl, rfl, rfl, rfl, rfl, HC⟩ := hcut
      rename World => wq
      have gq := HC.out.2.2.2
      have BLq := Lib.hid (grown_below BL10.out gq BL10.out.size (by have h1 := GP.out; have h2 := BL6S.out; omega))
      have OPq := Lib.hid (OP10.out.apartG gq GPQ.out.1)
      have OQq := Lib.hid (OQ10.out.apartG gq GPQ.out.2)
      have OBq := Lib.hid (OB10.out.apartG gq GB.out)
      have KBq := Lib.hid (KB10.out.grown gq (by intro e; injection e with e; have h1 := GK.out; have h2 := GP.out; omega))
      have x1 := HC.out.1
      have CS1 := Lib.hid (CSp.out D3 A3 f3 c3 wq HC.out.2.1 (Rd.of_own OPq.out))
      have CS2 := Lib.hid (CSr.out D4 Ab f4 cb wq HC.out.2.2.1.rd (Rd.of_own OBq.out))
      have CO1 := Lib.hid (COq.out D4 f4 wq HC.out.2.2.1)
      clear gq
      obtain ⟨ZH, hZH⟩ : ∃ ZH : Array Value, ZH = #[.bool false, .int .i64 0, .bool false, .slice none 0 0, .slice none 0 0] := ⟨_, rfl⟩
      have hzh : ∀ w, (zeroValue 25).run Tryd.prog w = .ok (.agg ZH) w := by rw [hZH]; exact fun w => rfl
      have SZH := Lib.hid (show ZH.size = 5 by rw [hZH]; rfl)
      clear hZH
      go_wp2_with (first
        | (go_at_call 16; (with_reducible refine CS1.out.mono ?_); rintro e w13 ⟨rfl, rfl⟩)
        | (go_at_call 16; (with_reducible refine CS2.out.mono ?_); rintro e w14 ⟨rfl, rfl⟩)
        | refine wpList_load_row rfl 34 (.tmp 13) rfl g2 rfl 34 KB (0, 0) _ KBq.out Tryd.underlying34 rfl (by rw [SKB.out]; exact I76.out) ?_
        | (go_at_call 13; (with_reducible refine CO1.out.mono ?_); rintro e w15 ⟨E1, h1, E2, h2, E3, h3, E4, h4, rfl, _, _, o3, _, b15⟩
           obtain ⟨HX, hHX⟩ : ∃ HX : Array Value, HX = #[.bool true, .int .i64 1, .bool false, .slice E1 ([49, 50, 51, 52, 53, 54, 55, 56] : List Int).length h1, .slice E2 ([49, 50, 51, 52, 53, 54, 55, 56] : List Int).length h2] := ⟨_, rfl⟩
           rw [← hHX]
           have HHX := Lib.hid hHX
           have SHX := Lib.hid (show HX.size = 5 by rw [hHX]; rfl)
           have AHX := Lib.hid (show HX.all (·.oneCell') = true by rw [hHX]; simp [Value.oneCell'])
           have BL15 := Lib.hid (BLq.out.trans (b15.mono BLq.out.size))
           have OQ15 := Lib.hid (OQq.out.below b15)
           have O315 := Lib.hid o3
           clear o3 b15 hHX)
        | (refine wpList_store_row rfl 25 (.tmp 23) (.tmp 108) rfl w15.heap.size HX rfl rfl 25 ZH (Blk.new w15 _ _) (by rw [SHX.out]; exact IH.out) (by rw [SHX.out, SZH.out]) AHX.out ?_
           have H16 := (Blk.row (Blk.new w15 25 ZH) HX)
           have b16 := (below_setRow ((Below.refl w15.heap.size w15).alloc (Nat.le_refl _) (.cells ZH 25)) (Nat.le_refl _) HX)
           have BL16 := Lib.hid (BL15.out.trans (b16.mono BL15.out.size))
           have OQ16 := Lib.hid (OQ15.out.below b16)
           have O316 := Lib.hid (O315.out.below b16)
           have z1 : ((w15.alloc (.cells ZH 25)).setRow w15.heap.size HX).cell? ⟨w15.heap.size, 1, none⟩ = some (.int .i64 1) := by have h := H16.cell 1; rw [HHX.out] at h; rw [HHX.out]; exact h
           clear b16 H16
           generalize (w15.alloc (.cells ZH 25)).setRow w15.heap.size HX = w16 at BL16 OQ16 O316 z1 ⊢
           have CS3 := Lib.hid (CSq.out E3 A4 h3 c4 w16 (Rd.of_own O316.out) (Rd.of_own OQ16.out)))
        | (go_at_call 16; (with_reducible refine CS3.out.mono ?_); rintro e w17 ⟨rfl, rfl⟩))
      go_ret
      exact ⟨rfl, BL16.out⟩
end Go.Proofs.YtjibbegdieiknaaDoor
