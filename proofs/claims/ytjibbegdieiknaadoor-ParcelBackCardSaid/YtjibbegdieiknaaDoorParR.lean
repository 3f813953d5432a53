/-
  ParcelBack.
-/
import Derived.Test.YtjibbegdieiknaaDoorParQ
import Derived.Test.YtjibbegdieiknaaDoorMaAZ
import Derived.Test.YtjibbegdieiknaaDoorMaAW
import Derived.Deep.DeepCutAuto
namespace Go.Proofs.YtjibbegdieiknaaDoor
open Go.RowKit
set_option maxRecDepth 100000
set_option linter.unusedVariables false
set_option linter.unusedSimpArgs false

theorem Own.row5 {w : World} {base c' : Nat} {A : Option Addr} {l : List Int} (o : Own w base A c' l) {q : Nat} {t : TypeId} {cs : Array Value} (k : Blk w q t cs) (ht : 5 ≠ t) (cs' : Array Value) : Own (w.setRow q cs') base A c' l :=
  o.grown (row := some q) ⟨rfl, rfl, rfl, by simp [World.setRow], fun i hi hne => setRow_other w q i cs' (by intro e; exact hne (by rw [e]))⟩ (fun g cur k' e => by injection e with e; subst e; exact absurd rfl (k'.ne_ k ht))
theorem blk_app {w w' : World} {gX base c : Nat} {cs : Array Value} {A : Option Addr} {l : List Int} (k : Blk w gX 25 cs) (o : Own w base A c l) (hg : w.grownBy w' (Value.slice A l.length c).ownBlock) : Blk w' gX 25 cs :=
  k.grown hg (by
    rcases OwnV.row_is (show OwnV w base 5 1 A c l.length (U8 l) from o) with ⟨rfl, _⟩ | ⟨g, cur, rfl, _, hb, _⟩
    · intro h; cases h
    · intro h
      have e : gX = g := by simpa [Value.ownBlock] using h
      subst e
      exact absurd rfl (k.ne_ hb (by decide)))
theorem sw_pow {s : Nat} {W : Int} (h : SW (s : Int) W) : W = 256 ^ s := by
  rcases h with ⟨h1, rfl⟩ | ⟨h1, rfl⟩ | ⟨h1, rfl⟩ | ⟨h1, rfl⟩
  · obtain rfl : s = 1 := by omega
    rfl
  · obtain rfl : s = 2 := by omega
    rfl
  · obtain rfl : s = 3 := by omega
    rfl
  · obtain rfl : s = 4 := by omega
    rfl
theorem sw_even {s W : Int} (h : SW s W) : W % 2 = 0 := by
  rcases h with ⟨_, rfl⟩ | ⟨_, rfl⟩ | ⟨_, rfl⟩ | ⟨_, rfl⟩ <;> decide
set_option maxHeartbeats 12800000 in
theorem back_walk (secret : List Int) (lg : Bool) (lv : Int) (ph : Bool) (A : Option Addr) (c : Nat) (a : List Int) (B : Option Addr) (d : Nat) (b : List Int) (acked far : Int) (Cp : Option Addr) (cp : Nat) (plain : List Int) (Cb : Option Addr) (cb : Nat) (behind : List Int) (w : World)
    (hE : STab w ∧ KTab w ∧ Tab w) (hk : secret.length = 32) (hkb : Bytes secret) (ha : Sl w A c a) (hab : Bytes a) (hb : Sl w B d b) (hbb : Bytes b) (wa : (Lit.int .u64 acked).wf = true) (wf : (Lit.int .u16 far).wf = true)
    (pr : Rd w Cp plain) (pb : Bytes plain) (pl : plain.length ≤ cp) (pc : cp ≤ 9223372036854775807) (pn' : Cp = none → cp = 0)
    (qr : Rd w Cb behind) (qb : Bytes behind) (ql : behind.length ≤ cb) (qc : cb ≤ 9223372036854775807) (qn : Cb = none → cb = 0) :
    Calls Tryd.prog 3 #[.agg (IV .u8 secret).toArray, HV lg lv ph A a c B b d, .int .u64 acked, .int .u16 far, .slice Cp plain.length cp, .slice Cb behind.length cb] w fun e w' => e = .returned (.bool true) ∧ Below w.heap.size w w' := by
  have hA := u64_range wa
  have hFar : 0 ≤ far ∧ far < 65536 := by
    simp [Lit.wf, IntKind.min, IntKind.max, IntKind.signed, IntKind.bits] at wf; omega
  obtain ⟨hS, hK, hT⟩ := hE
  have C0 := Lib.hid (fun W (h : Below w.heap.size w W) => awake6_any W (hS.below h) (hK.below h))
  obtain ⟨SA, hSA⟩ : ∃ SA, SA = (IV .u8 secret).toArray := ⟨_, rfl⟩
  have SSA := Lib.hid (show SA.size = 32 by rw [hSA]; simp [IV, hk])
  have CD := Lib.hid (fun W (h : Below w.heap.size w W) => Draw_any secret W hk hkb (hS.below h) (hK.below h))
  obtain ⟨key, hkey⟩ : ∃ m, m = lab secret nKey 32 := ⟨_, rfl⟩
  obtain ⟨iv, hiv⟩ : ∃ m, m = lab secret nIv 12 := ⟨_, rfl⟩
  obtain ⟨mask, hmask⟩ : ∃ m, m = lab secret nHp 32 := ⟨_, rfl⟩
  have hkl : key.length = 32 := by rw [hkey]; exact lab_length _ _ _
  have hkB : Bytes key := by rw [hkey]; exact lab_bytes _ _ _
  have hil : iv.length = 12 := by rw [hiv]; exact lab_length _ _ _
  have hiB : Bytes iv := by rw [hiv]; exact lab_bytes _ _ _
  have hml : mask.length = 32 := by rw [hmask]; exact lab_length _ _ _
  have hmB : Bytes mask := by rw [hmask]; exact lab_bytes _ _ _
  obtain ⟨KL, hKL⟩ : ∃ KL, KL = IV .u8 (key ++ iv ++ mask) := ⟨_, rfl⟩
  have SKL := Lib.hid (show KL.length = 76 by rw [hKL, IV_length]; simp [hkl, hil, hml])
  have SKA := Lib.hid (show KL.toArray.size = 76 by rw [hKL]; simp [IV, hkl, hil, hml])
  have AKA := Lib.hid (show KL.toArray.all (·.oneCell') = true by rw [hKL]; simp [IV, Value.oneCell'])
  have eKV : KV key iv mask = .agg KL.toArray := by rw [hKL]; rfl
  rw [← hkey, ← hiv, ← hmask, eKV, ← hSA] at CD
  rw [← hSA]
  have I32 := Lib.hid (show (Tryd.prog.info? 22).map (·.size) = some 32 by kernel_rfl)
  have I76 := Lib.hid (show (Tryd.prog.info? 34).map (·.size) = some 76 by kernel_rfl)
  have IH := Lib.hid (show (Tryd.prog.info? 25).map (·.size) = some 5 by kernel_rfl)
  have huQ := Tryd.underlying34
  have hiQ := Lib.hid (show (Tryd.prog.info? 34).map (·.size) = some KL.length by rw [SKL.out]; kernel_rfl)
  obtain ⟨Z, hZ⟩ : ∃ Z, Z = (IV .u8 (List.replicate 76 0)).toArray := ⟨_, rfl⟩
  have hz76 : ∀ w, (zeroValue 34).run Tryd.prog w = .ok (.agg Z) w := by rw [hZ]; exact zero76
  have ZS := Lib.hid (show Z.size = 76 by rw [hZ]; simp [IV])
  -- the head, the texts, cut
  obtain ⟨a1, ha1⟩ : ∃ x, x = a.take 30 := ⟨_, rfl⟩
  obtain ⟨b1, hb1⟩ : ∃ x, x = b.take 30 := ⟨_, rfl⟩
  have ha1b : Bytes a1 := by rw [ha1]; exact hab.take 30
  have hb1b : Bytes b1 := by rw [hb1]; exact hbb.take 30
  have CFw := Lib.hid (fun W (h : Below w.heap.size w W) => Few_any lg lv ph A a c B b d W (ha.below h) (hb.below h))
  rw [← ha1, ← hb1] at CFw
  unfold HV at CFw
  unfold HV
  obtain ⟨HA, hHA⟩ : ∃ HA : Array Value, HA = #[.bool lg, .int .i64 lv, .bool ph, .slice A a.length c, .slice B b.length d] := ⟨_, rfl⟩
  have SHA := Lib.hid (show HA.size = 5 by rw [hHA]; rfl)
  rw [← hHA] at CFw ⊢
  have hp : Sl w Cp plain.length.succ.pred plain ∨ True := .inr trivial
  have SP := Lib.hid (show Sl w Cp cp plain from ⟨pr, pl, pc, pn'⟩)
  have SQ := Lib.hid (show Sl w Cb cb behind from ⟨qr, ql, qc, qn⟩)
  obtain ⟨P, hP⟩ : ∃ P, P = plain.take 300 := ⟨_, rfl⟩
  obtain ⟨Q, hQ⟩ : ∃ Q, Q = behind.take 60 := ⟨_, rfl⟩
  have hPl : P.length ≤ 300 := by rw [hP, List.length_take]; omega
  have hPb : Bytes P := by rw [hP]; exact pb.take 300
  have hQl : Q.length ≤ 60 := by rw [hQ, List.length_take]; omega
  have hQb : Bytes Q := by rw [hQ]; exact qb.take 60
  have CQ1 := Lib.hid (fun W (h : Below w.heap.size w W) => cut_any Cp cp plain 300 W (SP.out.below h).rd (by have := SP.out.le; have := SP.out.max; omega) SP.out.le (by omega) (by omega))
  have CQ2 := Lib.hid (fun W (h : Below w.heap.size w W) => cut_any Cb cb behind 60 W (SQ.out.below h).rd (by have := SQ.out.le; have := SQ.out.max; omega) SQ.out.le (by omega) (by omega))
  rw [show (300 : Int).toNat = 300 from rfl, ← hP] at CQ1
  rw [show (60 : Int).toNat = 60 from rfl, ← hQ] at CQ2
  obtain ⟨ak, hak⟩ : ∃ x, acked % 1152921504606846976 = x := ⟨_, rfl⟩
  have hakr : 0 ≤ ak ∧ ak < 1152921504606846976 := by omega
  obtain ⟨pn, hpn⟩ : ∃ x, x = ak + 1 + far := ⟨_, rfl⟩
  have hpw : IntKind.u64.wrap (ak + 1 + far) = pn := by rw [hpn, IntKind.wrap_u64]; omega
  have hpr : ak < pn ∧ pn ≤ ak + 65536 := by omega
  have CNd := Lib.hid (fun W => refNeed_any pn ak W (by omega))
  have HS := Lib.hid hS
  have HK := Lib.hid hK
  have HT := Lib.hid hT
  have HKL := Lib.hid (show key.length = 32 ∧ Bytes key ∧ iv.length = 12 ∧ Bytes iv ∧ mask.length = 32 ∧ Bytes mask from ⟨hkl, hkB, hil, hiB, hml, hmB⟩)
  have EKV := Lib.hid eKV
  have HAB := Lib.hid (show Bytes a1 ∧ Bytes b1 from ⟨ha1b, hb1b⟩)
  have HPB := Lib.hid (show Bytes P ∧ Bytes Q from ⟨hPb, hQb⟩)
  have N0 := Lib.hid (show Blk ((w.alloc (.cells SA 22)).alloc (.cells HA 25)) w.heap.size 22 SA from (Blk.new w _ _).alloc _)
  have N1 := Lib.hid (show Blk ((w.alloc (.cells SA 22)).alloc (.cells HA 25)) (w.heap.size + 1) 25 HA from blk_second w _ _ _)
  have b0 := Lib.hid (show Below w.heap.size w ((w.alloc (.cells SA 22)).alloc (.cells HA 25)) from ((Below.refl _ _).alloc (Nat.le_refl _) _).alloc (by simp) _)
  clear hSA hkey hiv hmask hkl hkB hil hiB hml hmB hKL eKV hZ ha1 hb1 ha1b hb1b hHA hp hP hQ hPb hQb hpn hS hK hT hk hkb ha hab hb hbb wa wf pr pb pl pc pn' qr qb ql qc qn
  go_enter Tryd.func3, Tryd.ntmps3
  go_upto_region 8 with (first
    | (go_at_call 6; refine (C0.out _ b0.out).mono ?_; rintro e w1 ⟨rfl, b1'⟩
       have B1 := Lib.hid (b0.out.trans (b1'.mono b0.out.size))
       have S1 := Lib.hid (N0.out.below b1' N0.out.lt)
       have H1 := Lib.hid (N1.out.below b1' N1.out.lt)
       have C1 := Lib.hid (CFw.out w1 B1.out)
       clear b1')
    | refine wpList_load_row rfl 25 (.tmp 7) rfl (w.heap.size + 1) rfl 25 HA (0, 0) _ H1.out Tryd.underlying25 rfl (by rw [SHA.out]; exact IH.out) ?_
    | (go_at_call 7; (with_reducible refine C1.out.mono ?_); rintro e w2 ⟨A2, c2, B2, d2, rfl, o2, p2, b2⟩
       obtain ⟨HB, hHB⟩ : ∃ HB : Array Value, HB = #[.bool lg, .int .i64 lv, .bool ph, .slice A2 a1.length c2, .slice B2 b1.length d2] := ⟨_, rfl⟩
       rw [← hHB]
       have HHB := Lib.hid hHB
       have SHB := Lib.hid (show HB.size = 5 by rw [hHB]; rfl)
       have AHB := Lib.hid (show HB.all (·.oneCell') = true by rw [hHB]; simp [Value.oneCell'])
       have BL2 := Lib.hid (B1.out.trans (b2.mono B1.out.size))
       have S2 := Lib.hid (S1.out.below b2 S1.out.lt)
       have H2 := Lib.hid (H1.out.below b2 H1.out.lt)
       have OA2 := Lib.hid o2
       have OB2 := Lib.hid p2
       have C2 := Lib.hid (CQ1.out w2 BL2.out)
       clear o2 p2 b2 hHB)
    | (go_at_call 8; (with_reducible refine C2.out.mono ?_); rintro e w3 ⟨A3, c3, rfl, o3, b3⟩
       have BL3 := Lib.hid (BL2.out.trans (b3.mono BL2.out.size))
       have S3 := Lib.hid (S2.out.below b3 S2.out.lt)
       have H3 := Lib.hid (H2.out.below b3 H2.out.lt)
       have OA3 := Lib.hid (OA2.out.below b3)
       have OB3 := Lib.hid (OB2.out.below b3)
       have OP3 := Lib.hid o3
       have C3 := Lib.hid (CQ2.out w3 BL3.out)
       clear o3 b3)
    | (go_at_call 8; (with_reducible refine C3.out.mono ?_); rintro e w4 ⟨A4, c4, rfl, o4, b4⟩
       have BL4 := Lib.hid (BL3.out.trans (b4.mono BL3.out.size))
       have S4 := Lib.hid (S3.out.below b4 S3.out.lt)
       have H4 := Lib.hid (H3.out.below b4 H3.out.lt)
       have OA4 := Lib.hid (OA3.out.below b4)
       have OB4 := Lib.hid (OB3.out.below b4)
       have OP4 := Lib.hid (OP3.out.below b4)
       have OQ4 := Lib.hid o4
       clear o4 b4)
    | (refine wpList_store_row rfl 25 (.tmp 7) (.tmp 26) rfl (w.heap.size + 1) HB rfl rfl 25 HA H4.out (by rw [SHB.out]; exact IH.out) (by rw [SHB.out, SHA.out]) AHB.out ?_
       have H5 := Lib.hid (Blk.row H4.out HB)
       have S5 := Lib.hid (S4.out.far_row (g2 := w.heap.size + 1) (by omega) HB)
       have BL5 := Lib.hid (below_setRow (g := w.heap.size + 1) BL4.out (by omega) HB)
       have OA5 := Lib.hid (OA4.out.row5 H4.out (by decide) HB)
       have OB5 := Lib.hid (OB4.out.row5 H4.out (by decide) HB)
       have OP5 := Lib.hid (OP4.out.row5 H4.out (by decide) HB)
       have OQ5 := Lib.hid (OQ4.out.row5 H4.out (by decide) HB)
       generalize w4.setRow (w.heap.size + 1) HB = w5 at H5 S5 BL5 OA5 OB5 OP5 OQ5 ⊢)
    | (go_at_call 9; (with_reducible refine (CNd.out _).mono ?_); rintro e w6 ⟨s, W, rfl, hSW, h2W, b6⟩
       have BL6 := Lib.hid (BL5.out.trans (b6.mono BL5.out.size))
       have S6 := Lib.hid (S5.out.below b6 S5.out.lt)
       have H6 := Lib.hid (H5.out.below b6 H5.out.lt)
       have OA6 := Lib.hid (OA5.out.below b6)
       have OB6 := Lib.hid (OB5.out.below b6)
       have OP6 := Lib.hid (OP5.out.below b6)
       have OQ6 := Lib.hid (OQ5.out.below b6)
       have C6 := Lib.hid (CD.out w6 BL6.out)
       have HSW := Lib.hid hSW
       have H2W := Lib.hid h2W
       have hs14 : 1 ≤ s ∧ s ≤ 4 := by have := hSW.pos; omega
       clear b6 hSW h2W)
    | refine wpList_load_row rfl 22 (.tmp 6) rfl w.heap.size rfl 22 SA (0, 0) _ S6.out Tryd.underlying22 rfl (by rw [SSA.out]; exact I32.out) ?_
    | (go_at_call 10; (with_reducible refine C6.out.mono ?_); rintro e w7 ⟨rfl, b7⟩
       have BL7 := Lib.hid (BL6.out.trans (b7.mono BL6.out.size))
       have H7 := Lib.hid (H6.out.below b7 H6.out.lt)
       have OA7 := Lib.hid (OA6.out.below b7)
       have OB7 := Lib.hid (OB6.out.below b7)
       have OP7 := Lib.hid (OP6.out.below b7)
       have OQ7 := Lib.hid (OQ6.out.below b7)
       clear b7)
    | (refine wpList_store_row rfl 34 (.tmp 15) (.tmp 42) rfl w7.heap.size KL.toArray rfl rfl 34 Z (Blk.new w7 _ _) (by rw [SKA.out]; exact I76.out) (by rw [SKA.out, ZS.out]) AKA.out ?_
       have K8 := Lib.hid (Blk.row (Blk.new w7 34 Z) KL.toArray)
       have b8 := (below_setRow ((Below.refl w7.heap.size w7).alloc (Nat.le_refl _) (.cells Z 34)) (Nat.le_refl _) KL.toArray)
       have BL8 := Lib.hid (BL7.out.trans (b8.mono BL7.out.size))
       have H8 := Lib.hid (H7.out.below b8 H7.out.lt)
       have OA8 := Lib.hid (OA7.out.below b8)
       have OB8 := Lib.hid (OB7.out.below b8)
       have OP8 := Lib.hid (OP7.out.below b8)
       have OQ8 := Lib.hid (OQ7.out.below b8)
       have hg78 := Lib.hid (show w.heap.size + 1 < w7.heap.size from H7.out.lt)
       clear b8
       generalize (w7.alloc (.cells Z 34)).setRow w7.heap.size KL.toArray = w8 at K8 BL8 H8 OA8 OB8 OP8 OQ8 ⊢))
  rw [show ∀ (a : Act) (v : Value), a.put none v = a from fun _ _ => rfl]
  obtain ⟨gK, hgK⟩ : ∃ g, g = w7.heap.size := ⟨_, rfl⟩
  obtain ⟨gH, hgH⟩ : ∃ g, g = w.heap.size + 1 := ⟨_, rfl⟩
  rw [← hgK] at K8 hg78 ⊢
  rw [← hgH] at H8 hg78 ⊢
  have HG := Lib.hid (show w.heap.size < gH ∧ gH < gK ∧ gK < w8.heap.size from ⟨by omega, hg78.out, K8.out.lt⟩)
  clear hgK hgH hg78 H7 OA7 OB7 OP7 OQ7 BL7 C6 BL6 S6 H6 OA6 OB6 OP6 OQ6 H5 S5 BL5 OA5 OB5 OP5 OQ5 BL4 S4 H4 OA4 OB4 OP4 OQ4 BL3 S3 H3 OA3 OB3 OP3 C3 BL2 S2 H2 OA2 OB2 C2 B1 S1 H1 C1 b0 N0 N1 C0 CD CFw CQ1 CQ2 CNd
  have SA8 := Lib.hid (Sl.of_own OA8.out)
  have SB8 := Lib.hid (Sl.of_own OB8.out)
  have SP8 := Lib.hid (Sl.of_own OP8.out)
  have T8 := Lib.hid (HT.out.below BL8.out)
  by_cases hok : rightB lg lv ph a1 b1 = true ∧ 4 ≤ s + P.length
  · obtain ⟨hr, h4⟩ := hok
    obtain ⟨PK, hPK⟩ : ∃ PK, PK = closeP lg lv ph a1 b1 pn s key iv mask P := ⟨_, rfl⟩
    obtain ⟨R, hR⟩ : ∃ R, R = if lg then Q else [] := ⟨_, rfl⟩
    have hRf : lg = false → R = [] := fun e => by rw [hR, e]; rfl
    have hRb : Bytes R := by rw [hR]; cases lg; exact Bytes.nil; exact HPB.out.2
    have hRl : R.length ≤ 60 := by rw [hR]; cases lg; simp; exact hQl
    have hPKl : PK.length ≤ 1200 := by
      rw [hPK, closeP_length]
      have := (atL_le (s := s) (n := P.length) hr).1
      omega
    have CCy := Lib.hid (Close_ok key iv mask a1 b1 P lg lv ph A2 B2 A3 c2 d2 c3 pn s w8 HKL.out.1 HKL.out.2.1 HKL.out.2.2.1 HKL.out.2.2.2.1 HKL.out.2.2.2.2.1 HKL.out.2.2.2.2.2 SA8.out SB8.out HAB.out.1 HAB.out.2 (by omega) hs14 SP8.out HPB.out.1 (by omega) h4 hr T8.out)
    rw [← hPK, EKV.out] at CCy
    unfold HV at CCy
    rw [← HHB.out] at CCy
    obtain ⟨X, hX⟩ : ∃ X, X = PK ++ R := ⟨_, rfl⟩
    have hgr : growN (ak + 1) (pn % W) W = pn := by
      have h := growN_is (ak + 1) pn W (by omega) (by omega) (by have := H2W.out; omega) HSW.out.pos.1 (sw_even HSW.out) (by omega)
      rwa [Int.emod_emod_of_dvd _ (Int.dvd_refl _)] at h
    have COp := Lib.hid (fun Ap cp W' (h : Sl W' Ap cp X) => pOpen_ok key iv mask a1 b1 P R lg lv ph pn s Ap cp W' X (by rw [hX, hPK]) h HKL.out.1 HKL.out.2.1 HKL.out.2.2.1 HKL.out.2.2.2.1 HKL.out.2.2.2.2.1 HKL.out.2.2.2.2.2 HAB.out.1 HAB.out.2 (by omega) hs14 HPB.out.1 (by omega) h4 hr hRf hRb (by omega) ak (ak + 1) W true (by omega) HSW.out (sw_pow HSW.out) (by simp; omega) hgr)
    rw [EKV.out] at COp
    have LX := Lib.hid (show PK.length + R.length ≤ 2000 by omega)
    have LXX := Lib.hid (show PK.length + R.length = X.length by rw [hX, List.length_append])
    have HX0 := Lib.hid (show PK ++ R = X from hX.symm)
    have CSH := Lib.hid (fun (D1 D2 : Option Addr) (f1 f2 : Nat) W' (h1 : Rd W' D1 a1) (h2 : Rd W' D2 b1) (h3 : Rd W' A2 a1) (h4 : Rd W' B2 b1) => sameH_yes lg lv ph D1 f1 a1 D2 f2 b1 A2 c2 B2 d2 W' h1 h2 h3 h4 HAB.out.1 HAB.out.2)
    have CSm := Lib.hid (fun (A1 A2 : Option Addr) (c1 c2 : Nat) W' (h1 : Rd W' A1 P) (h2 : Rd W' A2 P) => same_any A1 A2 c1 c2 P P W' h1 h2 HPB.out.1 HPB.out.1)
    have CSr := Lib.hid (fun (A1 A2 : Option Addr) (c1 c2 : Nat) W' (h1 : Rd W' A1 R) (h2 : Rd W' A2 R) => same_any A1 A2 c1 c2 R R W' h1 h2 hRb hRb)
    rw [sameB_refl] at CSm CSr
    have HRR := Lib.hid hR
    clear hPK hR hRf hRb hPKl hX hgr h4 hr
    go_upto_if 66 with (first
      | refine wpList_load_row rfl 34 (.tmp 15) rfl gK rfl 34 KL.toArray (0, 0) _ K8.out Tryd.underlying34 rfl (by rw [SKA.out]; exact I76.out) ?_
      | refine wpList_load_row rfl 25 (.tmp 7) rfl gH rfl 25 HB (0, 0) _ H8.out Tryd.underlying25 rfl (by rw [SHB.out]; exact IH.out) ?_
      | (go_at_call 11; (with_reducible refine CCy.out.mono ?_); rintro e w9 ⟨A9, c9, rfl, o9, b9⟩
         have BL9 := Lib.hid (BL8.out.trans (b9.mono BL8.out.size))
         have H9 := Lib.hid (H8.out.below b9 H8.out.lt)
         have K9 := Lib.hid (K8.out.below b9 K8.out.lt)
         have OA9 := Lib.hid (SA8.out.below b9)
         have OB9 := Lib.hid (SB8.out.below b9)
         have OP9 := Lib.hid (SP8.out.below b9)
         have OQ9 := Lib.hid ((Sl.of_own OQ8.out).below b9)
         have OK9 := Lib.hid (Sl.of_own o9)
         have k0 : w9.cell? ⟨gH, 0, none⟩ = some (.bool lg) := by have h := H9.out.cell 0; rw [HHB.out] at h; exact h
         clear o9 b9))
    go_cut [5] (fun v wx => ∃ A' c', v = .slice A' R.length c' ∧ Hid (Sl wx A' c' R) ∧ wx = w9)
    case first =>
      cases lg
      · go_wp2_with fail
        go_meet
        exact ⟨none, 0, by rw [HRR.out]; rfl, Lib.hid (by rw [HRR.out]; exact Sl.none_ _), rfl⟩
      · go_wp2_with fail
        go_meet
        exact ⟨A4, c4, by rw [HRR.out]; rfl, Lib.hid (by rw [HRR.out]; exact OQ9.out), rfl⟩
    case rest =>
      obtain ⟨A5, c5, rfl, SR, ew⟩ := hcut
      rw [ew] at SR
      rw [ew]
      clear ew
      go_upto_region 13 with fail
      go_cut [18, 19, 20, 21, 22] (fun p v1 v2 v3 v4 wx => ∃ gX D1 f1 D2 f2 D3 f3 D4 f4, p = .pointer (some ⟨gX, 0, none⟩) ∧ v1 = .int .u64 pn ∧ v2 = .slice D3 P.length f3 ∧ v3 = .slice D4 R.length f4 ∧ v4 = .int .i64 0 ∧ Hid (Blk wx gX 25 #[.bool lg, .int .i64 lv, .bool ph, .slice D1 a1.length f1, .slice D2 b1.length f2] ∧ Rd wx D1 a1 ∧ Rd wx D2 b1 ∧ Rd wx D3 P ∧ Rd wx D4 R ∧ Below w9.heap.size w9 wx))
      case first =>
        obtain ⟨ZH, hZH⟩ : ∃ ZH : Array Value, ZH = #[.bool false, .int .i64 0, .bool false, .slice none 0 0, .slice none 0 0] := ⟨_, rfl⟩
        have hzh : ∀ w, (zeroValue 25).run Tryd.prog w = .ok (.agg ZH) w := by rw [hZH]; exact fun w => rfl
        have SZH := Lib.hid (show ZH.size = 5 by rw [hZH]; rfl)
        have CCp := Lib.hid (fun u (h : Below w9.heap.size w9 u) => copy_any A9 c9 PK u ((OK9.out.below h).rd) (by have := LX.out; omega))
        clear hZH
        obtain ⟨u0, hu0⟩ : ∃ u0, u0 = w9.drew := ⟨_, rfl⟩
        have bu0 : Below w9.heap.size w9 u0 := by rw [hu0]; exact (Below.refl _ _).drew
        refine wp_region_held_drew (S := fun w' => Below w9.heap.size w9 w') (by kernel_rfl) (by rw [← hu0]; exact bu0) (fun _ => ?_)
        rw [← hu0]
        clear hu0
        refine wpAnyH_take (i := 0) (oi := ⟨_, _, _, _, _, _⟩) rfl (by kernel_rfl) (by kernel_rfl) (by kernel_rfl) (fun _ _ _ h => h) (yieldsIf_load_mid (by rfl) 34 (.tmp 15) rfl gK 0 rfl KL _ (fun w h => (K9.out.below h K9.out.lt).range) huQ rfl hiQ.out) bu0 ?_
        simp only [Act.put, List.setIfInBounds_toArray, List.set_cons_zero, List.set_cons_succ]
        refine wpAnyH_take (i := 1) (oi := ⟨_, _, _, _, _, _⟩) (v := (.slice A9 PK.length c9)) rfl (by kernel_rfl) (by kernel_rfl) (by kernel_rfl) (fun _ _ _ h => h) (Or.inl ⟨by rfl, fun w _ => rfl⟩) bu0 ?_
        simp only [Act.put, List.setIfInBounds_toArray, List.set_cons_zero, List.set_cons_succ]
        refine wpAnyH_take (i := 3) (oi := ⟨_, _, _, _, _, _⟩) (v := (.slice A5 R.length c5)) rfl (by kernel_rfl) (by kernel_rfl) (by kernel_rfl) (fun _ _ _ h => h) (Or.inl ⟨by rfl, fun w _ => rfl⟩) bu0 ?_
        simp only [Act.put, List.setIfInBounds_toArray, List.set_cons_zero, List.set_cons_succ]
        refine wpAnyH_take (i := 5) (oi := ⟨_, _, _, _, _, _⟩) (v := (.int .u64 ak)) rfl (by kernel_rfl) (by kernel_rfl) (by kernel_rfl) (fun _ _ _ h => h) (Or.inl ⟨by rfl, fun w _ => rfl⟩) bu0 ?_
        simp only [Act.put, List.setIfInBounds_toArray, List.set_cons_zero, List.set_cons_succ]
        refine wpAnyH_ready (rs := [2, 13]) (by kernel_rfl) (by simp) ?_
        refine AllReadyH.cons rfl (fun K hK => ?_) (AllReadyH.cons rfl (fun K hK => ?_) AllReadyH.nil)
        · go_simp
          refine (CCp.out u0 bu0).mono ?_
          rintro e u1 ⟨Ac, cc, rfl, oc, bs⟩
          have bu1 : Below w9.heap.size w9 u1 := bu0.trans (bs.mono bu0.size)
          have ocu1 := oc.base_le bu0.size
          refine hK.out _ _ bu1 (fun _ => ?_)
          clear hK K oc bs
          refine wpAnyH_ready (rs := [4, 13]) (by kernel_rfl) (by simp) ?_
          refine AllReadyH.cons rfl (fun K hK => ?_) (AllReadyH.cons rfl (fun K hK => ?_) AllReadyH.nil)
          · have hr : Reads u1 u1.heap.size 1 A5 R.length (U8 R) := (SR.out.below bu1).rd
            refine step_appV rfl (.tmp 70) (.tmp 71) 23 5 1 1 (.int .u8 0) rfl Tryd.underlying23 info_u8 rfl (by decide) w9.heap.size (c := cc) (d := c5) (n := PK.length) (m := R.length) (A := Ac) (B := A5) rfl rfl ocu1 hr (U8_oneCell _) (by have h := LX.out; unfold maxLen; omega) (by have h := LX.out; omega) bu1.size ?_
            intro Aa ca u2 oa ga ba _
            have bu2 : Below w9.heap.size w9 u2 := bu1.trans ba
            have oau2 := own_appV oa rfl
            rw [HX0.out] at oau2
            rw [show PK.length + R.length = X.length from LXX.out]
            refine hK.out _ _ bu2 (fun _ => ?_)
            clear hK K oa ga ba hr ocu1
            simp only [List.getElem_toArray, List.getElem_cons_succ, List.getElem_cons_zero, Act.put, List.setIfInBounds_toArray, List.set_cons_succ, List.set_cons_zero]
            refine wpAnyH_ready (rs := [6, 13]) (by kernel_rfl) (by simp) ?_
            refine AllReadyH.cons rfl (fun K hK => ?_) (AllReadyH.cons rfl (fun K hK => ?_) AllReadyH.nil)
            · go_simp
              refine (COp.out Aa ca u2 (Sl.of_own oau2)).mono ?_
              rintro e u3 ⟨D1, f1, D2, f2, D3, f3, D4, f4, rfl, o1, o2, o3, o4, bs⟩
              obtain ⟨HX, hHX⟩ : ∃ HX : Array Value, HX = #[.bool lg, .int .i64 lv, .bool ph, .slice D1 a1.length f1, .slice D2 b1.length f2] := ⟨_, rfl⟩
              rw [← hHX]
              have HHX := Lib.hid hHX
              have SHX := Lib.hid (show HX.size = 5 by rw [hHX]; rfl)
              have AHX := Lib.hid (show HX.all (·.oneCell') = true by rw [hHX]; simp [Value.oneCell'])
              clear hHX
              have bu3 : Below w9.heap.size w9 u3 := bu2.trans (bs.mono bu2.size)
              have p1u3 := o1.base_le bu2.size
              have p2u3 := o2.base_le bu2.size
              have p3u3 := o3.base_le bu2.size
              have p4u3 := o4.base_le bu2.size
              refine hK.out _ _ bu3 (fun _ => ?_)
              clear hK K o1 o2 o3 o4 bs oau2
              refine wpAnyH_take (i := 7) (oi := ⟨_, _, _, _, _, _⟩) (v := (.tuple #[.agg HX, .int .u64 pn, .slice D3 P.length f3, .slice D4 R.length f4, .int .i64 0])) rfl (by kernel_rfl) (by kernel_rfl) (by kernel_rfl) (fun _ _ _ h => h) (Or.inl ⟨by rfl, fun w _ => rfl⟩) bu3 ?_
              simp only [Act.put, List.setIfInBounds_toArray, List.set_cons_zero, List.set_cons_succ]
              refine wpAnyH_take (i := 8) (oi := ⟨_, _, _, _, _, _⟩) (v := (.agg HX)) rfl (by kernel_rfl) (by kernel_rfl) (by kernel_rfl) (fun _ _ _ h => h) (Or.inl ⟨by rfl, fun w _ => rfl⟩) bu3 ?_
              simp only [Act.put, List.setIfInBounds_toArray, List.set_cons_zero, List.set_cons_succ]
              refine wpAnyH_take (i := 9) (oi := ⟨_, _, _, _, _, _⟩) (v := (.int .u64 pn)) rfl (by kernel_rfl) (by kernel_rfl) (by kernel_rfl) (fun _ _ _ h => h) (Or.inl ⟨by rfl, fun w _ => rfl⟩) bu3 ?_
              simp only [Act.put, List.setIfInBounds_toArray, List.set_cons_zero, List.set_cons_succ]
              refine wpAnyH_take (i := 10) (oi := ⟨_, _, _, _, _, _⟩) (v := (.slice D3 P.length f3)) rfl (by kernel_rfl) (by kernel_rfl) (by kernel_rfl) (fun _ _ _ h => h) (Or.inl ⟨by rfl, fun w _ => rfl⟩) bu3 ?_
              simp only [Act.put, List.setIfInBounds_toArray, List.set_cons_zero, List.set_cons_succ]
              refine wpAnyH_take (i := 11) (oi := ⟨_, _, _, _, _, _⟩) (v := (.slice D4 R.length f4)) rfl (by kernel_rfl) (by kernel_rfl) (by kernel_rfl) (fun _ _ _ h => h) (Or.inl ⟨by rfl, fun w _ => rfl⟩) bu3 ?_
              simp only [Act.put, List.setIfInBounds_toArray, List.set_cons_zero, List.set_cons_succ]
              refine wpAnyH_take (i := 12) (oi := ⟨_, _, _, _, _, _⟩) (v := (.int .i64 0)) rfl (by kernel_rfl) (by kernel_rfl) (by kernel_rfl) (fun _ _ _ h => h) (Or.inl ⟨by rfl, fun w _ => rfl⟩) bu3 ?_
              simp only [Act.put, List.setIfInBounds_toArray, List.set_cons_zero, List.set_cons_succ]
              refine wpAnyH_ready (rs := [13]) (by kernel_rfl) (by simp) ?_
              refine AllReadyH.cons rfl (fun K hK => ?_) AllReadyH.nil
              · go_simp
                have bu4 : Below w9.heap.size w9 (u3.alloc (.cells ZH 25)) := bu3.alloc bu3.size _
                have ku4 : Blk (u3.alloc (.cells ZH 25)) u3.heap.size 25 ZH := Blk.new _ _ _
                have bs : Below u3.heap.size u3 (u3.alloc (.cells ZH 25)) := (Below.refl _ _).alloc (Nat.le_refl _) _
                have p1u4 := p1u3.below bs
                have p2u4 := p2u3.below bs
                have p3u4 := p3u3.below bs
                have p4u4 := p4u3.below bs
                have hgX := bu3.size
                refine hK.out _ _ bu4 (fun _ => ?_)
                clear hK K bs
                obtain ⟨gX, hgx⟩ : ∃ g, g = u3.heap.size := ⟨_, rfl⟩
                rw [← hgx] at ku4 hgX ⊢
                generalize u3.alloc (.cells ZH 25) = u4 at bu4 ku4 p1u4 p2u4 p3u4 p4u4 ⊢
                clear hgx
                refine wpAnyH_ready (rs := [14]) (by kernel_rfl) (by simp) ?_
                refine AllReadyH.cons rfl (fun K hK => ?_) AllReadyH.nil
                rw [if_pos (by rfl)]
                refine wp_store_mid 25 (.tmp 18) (.tmp 75) rfl gX 0 HX rfl rfl (Blk.there_ ku4 (by rw [SHX.out, SZH.out]; exact Nat.le_refl _)) (by rw [SHX.out]; exact IH.out) AHX.out ?_
                simp only [List.getElem_toArray, List.getElem_cons_succ, List.getElem_cons_zero, Act.put, List.setIfInBounds_toArray, List.set_cons_succ, List.set_cons_zero]
                have hHl : HX.toList.length = ZH.size := by rw [SZH.out, Array.length_toList]; exact SHX.out
                have gs : u4.grownBy (u4.setCells gX 0 HX.toList) (some gX) := only_setCells _ _ _ (gb_self _ _)
                have ks : Blk (u4.setCells gX 0 HX.toList) gX 25 HX := by
                  have h := ku4.setAll hHl
                  rwa [Array.toArray_toList] at h
                have bs : Below w9.heap.size w9 (u4.setCells gX 0 HX.toList) := grown_below bu4 gs bu4.size hgX
                have p1s := Rd.of_own (Own.grown p1u4 gs (fun g cur k' e => by injection e with e; subst e; exact absurd rfl (k'.ne_ ku4 (by decide))))
                have p2s := Rd.of_own (Own.grown p2u4 gs (fun g cur k' e => by injection e with e; subst e; exact absurd rfl (k'.ne_ ku4 (by decide))))
                have p3s := Rd.of_own (Own.grown p3u4 gs (fun g cur k' e => by injection e with e; subst e; exact absurd rfl (k'.ne_ ku4 (by decide))))
                have p4s := Rd.of_own (Own.grown p4u4 gs (fun g cur k' e => by injection e with e; subst e; exact absurd rfl (k'.ne_ ku4 (by decide))))
                refine hK.out _ _ bs (fun hHs => ?_)
                clear hK K
                refine wpAnyH_take (i := 15) (oi := ⟨_, _, _, _, _, _⟩) (v := (.int .u64 pn)) rfl (by kernel_rfl) (by kernel_rfl) (by kernel_rfl) (fun _ _ _ h => h) (Or.inl ⟨by rfl, fun w _ => rfl⟩) hHs ?_
                simp only [Act.put, List.setIfInBounds_toArray, List.set_cons_zero, List.set_cons_succ]
                refine wpAnyH_take (i := 16) (oi := ⟨_, _, _, _, _, _⟩) (v := (.slice D3 P.length f3)) rfl (by kernel_rfl) (by kernel_rfl) (by kernel_rfl) (fun _ _ _ h => h) (Or.inl ⟨by rfl, fun w _ => rfl⟩) hHs ?_
                simp only [Act.put, List.setIfInBounds_toArray, List.set_cons_zero, List.set_cons_succ]
                refine wpAnyH_take (i := 17) (oi := ⟨_, _, _, _, _, _⟩) (v := (.slice D4 R.length f4)) rfl (by kernel_rfl) (by kernel_rfl) (by kernel_rfl) (fun _ _ _ h => h) (Or.inl ⟨by rfl, fun w _ => rfl⟩) hHs ?_
                simp only [Act.put, List.setIfInBounds_toArray, List.set_cons_zero, List.set_cons_succ]
                refine wpAnyH_take (i := 18) (oi := ⟨_, _, _, _, _, _⟩) (v := (.int .i64 0)) rfl (by kernel_rfl) (by kernel_rfl) (by kernel_rfl) (fun _ _ _ h => h) (Or.inl ⟨by rfl, fun w _ => rfl⟩) hHs ?_
                simp only [Act.put, List.setIfInBounds_toArray, List.set_cons_zero, List.set_cons_succ]
                refine wpAnyH_done (by kernel_rfl) ?_ _
                have FIN : Hid (Blk (u4.setCells gX 0 HX.toList) gX 25 #[.bool lg, .int .i64 lv, .bool ph, .slice D1 a1.length f1, .slice D2 b1.length f2] ∧ Rd (u4.setCells gX 0 HX.toList) D1 a1 ∧ Rd (u4.setCells gX 0 HX.toList) D2 b1 ∧ Rd (u4.setCells gX 0 HX.toList) D3 P ∧ Rd (u4.setCells gX 0 HX.toList) D4 R ∧ Below w9.heap.size w9 (u4.setCells gX 0 HX.toList)) := Lib.hid ⟨by rw [← HHX.out]; exact ks, p1s, p2s, p3s, p4s, bs⟩
                clear ks p1s p2s p3s p4s bs gs hHs ku4 p1u4 p2u4 p3u4 p4u4 bu4
                generalize u4.setCells gX 0 HX.toList = wz at FIN ⊢
                go_wp2_with fail
                go_meet
                exact ⟨gX, D1, f1, D2, f2, D3, f3, D4, f4, rfl, rfl, rfl, rfl, rfl, FIN⟩
            · go_simp
              have bu5 : Below w9.heap.size w9 (u2.alloc (.cells ZH 25)) := bu2.alloc bu2.size _
              have ku5 : Blk (u2.alloc (.cells ZH 25)) u2.heap.size 25 ZH := Blk.new _ _ _
              have bs : Below u2.heap.size u2 (u2.alloc (.cells ZH 25)) := (Below.refl _ _).alloc (Nat.le_refl _) _
              have oau5 := oau2.below bs
              have hgX := bu2.size
              refine hK.out _ _ bu5 (fun _ => ?_)
              clear hK K bs
              obtain ⟨gX, hgx⟩ : ∃ g, g = u2.heap.size := ⟨_, rfl⟩
              rw [← hgx] at ku5 hgX ⊢
              generalize u2.alloc (.cells ZH 25) = u5 at bu5 ku5 oau5 ⊢
              clear hgx
              refine wpAnyH_ready (rs := [6]) (by kernel_rfl) (by simp) ?_
              refine AllReadyH.cons rfl (fun K hK => ?_) AllReadyH.nil
              · go_simp
                refine (COp.out Aa ca u5 (Sl.of_own oau5)).mono ?_
                rintro e u6 ⟨D1, f1, D2, f2, D3, f3, D4, f4, rfl, o1, o2, o3, o4, bs⟩
                obtain ⟨HX, hHX⟩ : ∃ HX : Array Value, HX = #[.bool lg, .int .i64 lv, .bool ph, .slice D1 a1.length f1, .slice D2 b1.length f2] := ⟨_, rfl⟩
                rw [← hHX]
                have HHX := Lib.hid hHX
                have SHX := Lib.hid (show HX.size = 5 by rw [hHX]; rfl)
                have AHX := Lib.hid (show HX.all (·.oneCell') = true by rw [hHX]; simp [Value.oneCell'])
                clear hHX
                have bu6 : Below w9.heap.size w9 u6 := bu5.trans (bs.mono bu5.size)
                have p1u6 := o1.base_le bu5.size
                have p2u6 := o2.base_le bu5.size
                have p3u6 := o3.base_le bu5.size
                have p4u6 := o4.base_le bu5.size
                have ku6 := ku5.below bs ku5.lt
                refine hK.out _ _ bu6 (fun _ => ?_)
                clear hK K o1 o2 o3 o4 bs oau5
                refine wpAnyH_take (i := 7) (oi := ⟨_, _, _, _, _, _⟩) (v := (.tuple #[.agg HX, .int .u64 pn, .slice D3 P.length f3, .slice D4 R.length f4, .int .i64 0])) rfl (by kernel_rfl) (by kernel_rfl) (by kernel_rfl) (fun _ _ _ h => h) (Or.inl ⟨by rfl, fun w _ => rfl⟩) bu6 ?_
                simp only [Act.put, List.setIfInBounds_toArray, List.set_cons_zero, List.set_cons_succ]
                refine wpAnyH_take (i := 8) (oi := ⟨_, _, _, _, _, _⟩) (v := (.agg HX)) rfl (by kernel_rfl) (by kernel_rfl) (by kernel_rfl) (fun _ _ _ h => h) (Or.inl ⟨by rfl, fun w _ => rfl⟩) bu6 ?_
                simp only [Act.put, List.setIfInBounds_toArray, List.set_cons_zero, List.set_cons_succ]
                refine wpAnyH_take (i := 9) (oi := ⟨_, _, _, _, _, _⟩) (v := (.int .u64 pn)) rfl (by kernel_rfl) (by kernel_rfl) (by kernel_rfl) (fun _ _ _ h => h) (Or.inl ⟨by rfl, fun w _ => rfl⟩) bu6 ?_
                simp only [Act.put, List.setIfInBounds_toArray, List.set_cons_zero, List.set_cons_succ]
                refine wpAnyH_take (i := 10) (oi := ⟨_, _, _, _, _, _⟩) (v := (.slice D3 P.length f3)) rfl (by kernel_rfl) (by kernel_rfl) (by kernel_rfl) (fun _ _ _ h => h) (Or.inl ⟨by rfl, fun w _ => rfl⟩) bu6 ?_
                simp only [Act.put, List.setIfInBounds_toArray, List.set_cons_zero, List.set_cons_succ]
                refine wpAnyH_take (i := 11) (oi := ⟨_, _, _, _, _, _⟩) (v := (.slice D4 R.length f4)) rfl (by kernel_rfl) (by kernel_rfl) (by kernel_rfl) (fun _ _ _ h => h) (Or.inl ⟨by rfl, fun w _ => rfl⟩) bu6 ?_
                simp only [Act.put, List.setIfInBounds_toArray, List.set_cons_zero, List.set_cons_succ]
                refine wpAnyH_take (i := 12) (oi := ⟨_, _, _, _, _, _⟩) (v := (.int .i64 0)) rfl (by kernel_rfl) (by kernel_rfl) (by kernel_rfl) (fun _ _ _ h => h) (Or.inl ⟨by rfl, fun w _ => rfl⟩) bu6 ?_
                simp only [Act.put, List.setIfInBounds_toArray, List.set_cons_zero, List.set_cons_succ]
                refine wpAnyH_ready (rs := [14]) (by kernel_rfl) (by simp) ?_
                refine AllReadyH.cons rfl (fun K hK => ?_) AllReadyH.nil
                rw [if_pos (by rfl)]
                refine wp_store_mid 25 (.tmp 18) (.tmp 75) rfl gX 0 HX rfl rfl (Blk.there_ ku6 (by rw [SHX.out, SZH.out]; exact Nat.le_refl _)) (by rw [SHX.out]; exact IH.out) AHX.out ?_
                simp only [List.getElem_toArray, List.getElem_cons_succ, List.getElem_cons_zero, Act.put, List.setIfInBounds_toArray, List.set_cons_succ, List.set_cons_zero]
                have hHl : HX.toList.length = ZH.size := by rw [SZH.out, Array.length_toList]; exact SHX.out
                have gs : u6.grownBy (u6.setCells gX 0 HX.toList) (some gX) := only_setCells _ _ _ (gb_self _ _)
                have ks : Blk (u6.setCells gX 0 HX.toList) gX 25 HX := by
                  have h := ku6.setAll hHl
                  rwa [Array.toArray_toList] at h
                have bs : Below w9.heap.size w9 (u6.setCells gX 0 HX.toList) := grown_below bu6 gs bu6.size hgX
                have p1s := Rd.of_own (Own.grown p1u6 gs (fun g cur k' e => by injection e with e; subst e; exact absurd rfl (k'.ne_ ku6 (by decide))))
                have p2s := Rd.of_own (Own.grown p2u6 gs (fun g cur k' e => by injection e with e; subst e; exact absurd rfl (k'.ne_ ku6 (by decide))))
                have p3s := Rd.of_own (Own.grown p3u6 gs (fun g cur k' e => by injection e with e; subst e; exact absurd rfl (k'.ne_ ku6 (by decide))))
                have p4s := Rd.of_own (Own.grown p4u6 gs (fun g cur k' e => by injection e with e; subst e; exact absurd rfl (k'.ne_ ku6 (by decide))))
                refine hK.out _ _ bs (fun hHs => ?_)
                clear hK K
                refine wpAnyH_take (i := 15) (oi := ⟨_, _, _, _, _, _⟩) (v := (.int .u64 pn)) rfl (by kernel_rfl) (by kernel_rfl) (by kernel_rfl) (fun _ _ _ h => h) (Or.inl ⟨by rfl, fun w _ => rfl⟩) hHs ?_
                simp only [Act.put, List.setIfInBounds_toArray, List.set_cons_zero, List.set_cons_succ]
                refine wpAnyH_take (i := 16) (oi := ⟨_, _, _, _, _, _⟩) (v := (.slice D3 P.length f3)) rfl (by kernel_rfl) (by kernel_rfl) (by kernel_rfl) (fun _ _ _ h => h) (Or.inl ⟨by rfl, fun w _ => rfl⟩) hHs ?_
                simp only [Act.put, List.setIfInBounds_toArray, List.set_cons_zero, List.set_cons_succ]
                refine wpAnyH_take (i := 17) (oi := ⟨_, _, _, _, _, _⟩) (v := (.slice D4 R.length f4)) rfl (by kernel_rfl) (by kernel_rfl) (by kernel_rfl) (fun _ _ _ h => h) (Or.inl ⟨by rfl, fun w _ => rfl⟩) hHs ?_
                simp only [Act.put, List.setIfInBounds_toArray, List.set_cons_zero, List.set_cons_succ]
                refine wpAnyH_take (i := 18) (oi := ⟨_, _, _, _, _, _⟩) (v := (.int .i64 0)) rfl (by kernel_rfl) (by kernel_rfl) (by kernel_rfl) (fun _ _ _ h => h) (Or.inl ⟨by rfl, fun w _ => rfl⟩) hHs ?_
                simp only [Act.put, List.setIfInBounds_toArray, List.set_cons_zero, List.set_cons_succ]
                refine wpAnyH_done (by kernel_rfl) ?_ _
                have FIN : Hid (Blk (u6.setCells gX 0 HX.toList) gX 25 #[.bool lg, .int .i64 lv, .bool ph, .slice D1 a1.length f1, .slice D2 b1.length f2] ∧ Rd (u6.setCells gX 0 HX.toList) D1 a1 ∧ Rd (u6.setCells gX 0 HX.toList) D2 b1 ∧ Rd (u6.setCells gX 0 HX.toList) D3 P ∧ Rd (u6.setCells gX 0 HX.toList) D4 R ∧ Below w9.heap.size w9 (u6.setCells gX 0 HX.toList)) := Lib.hid ⟨by rw [← HHX.out]; exact ks, p1s, p2s, p3s, p4s, bs⟩
                clear ks p1s p2s p3s p4s bs gs hHs ku6 p1u6 p2u6 p3u6 p4u6 bu6
                generalize u6.setCells gX 0 HX.toList = wz at FIN ⊢
                go_wp2_with fail
                go_meet
                exact ⟨gX, D1, f1, D2, f2, D3, f3, D4, f4, rfl, rfl, rfl, rfl, rfl, FIN⟩
          · go_simp
            have bu7 : Below w9.heap.size w9 (u1.alloc (.cells ZH 25)) := bu1.alloc bu1.size _
            have ku7 : Blk (u1.alloc (.cells ZH 25)) u1.heap.size 25 ZH := Blk.new _ _ _
            have bs : Below u1.heap.size u1 (u1.alloc (.cells ZH 25)) := (Below.refl _ _).alloc (Nat.le_refl _) _
            have ocu7 := ocu1.below bs
            have hgX := bu1.size
            refine hK.out _ _ bu7 (fun _ => ?_)
            clear hK K bs
            obtain ⟨gX, hgx⟩ : ∃ g, g = u1.heap.size := ⟨_, rfl⟩
            rw [← hgx] at ku7 hgX ⊢
            generalize u1.alloc (.cells ZH 25) = u7 at bu7 ku7 ocu7 ⊢
            clear hgx
            refine wpAnyH_ready (rs := [4]) (by kernel_rfl) (by simp) ?_
            refine AllReadyH.cons rfl (fun K hK => ?_) AllReadyH.nil
            · have hr : Reads u7 u7.heap.size 1 A5 R.length (U8 R) := (SR.out.below bu7).rd
              refine step_appV rfl (.tmp 70) (.tmp 71) 23 5 1 1 (.int .u8 0) rfl Tryd.underlying23 info_u8 rfl (by decide) w9.heap.size (c := cc) (d := c5) (n := PK.length) (m := R.length) (A := Ac) (B := A5) rfl rfl ocu7 hr (U8_oneCell _) (by have h := LX.out; unfold maxLen; omega) (by have h := LX.out; omega) bu7.size ?_
              intro Aa ca u8 oa ga ba _
              have bu8 : Below w9.heap.size w9 u8 := bu7.trans ba
              have oau8 := own_appV oa rfl
              rw [HX0.out] at oau8
              rw [show PK.length + R.length = X.length from LXX.out]
              have ku8 := blk_app ku7 ocu7 ga
              refine hK.out _ _ bu8 (fun _ => ?_)
              clear hK K oa ga ba hr ocu7
              simp only [List.getElem_toArray, List.getElem_cons_succ, List.getElem_cons_zero, Act.put, List.setIfInBounds_toArray, List.set_cons_succ, List.set_cons_zero]
              refine wpAnyH_ready (rs := [6]) (by kernel_rfl) (by simp) ?_
              refine AllReadyH.cons rfl (fun K hK => ?_) AllReadyH.nil
              · go_simp
                refine (COp.out Aa ca u8 (Sl.of_own oau8)).mono ?_
                rintro e u9 ⟨D1, f1, D2, f2, D3, f3, D4, f4, rfl, o1, o2, o3, o4, bs⟩
                obtain ⟨HX, hHX⟩ : ∃ HX : Array Value, HX = #[.bool lg, .int .i64 lv, .bool ph, .slice D1 a1.length f1, .slice D2 b1.length f2] := ⟨_, rfl⟩
                rw [← hHX]
                have HHX := Lib.hid hHX
                have SHX := Lib.hid (show HX.size = 5 by rw [hHX]; rfl)
                have AHX := Lib.hid (show HX.all (·.oneCell') = true by rw [hHX]; simp [Value.oneCell'])
                clear hHX
                have bu9 : Below w9.heap.size w9 u9 := bu8.trans (bs.mono bu8.size)
                have p1u9 := o1.base_le bu8.size
                have p2u9 := o2.base_le bu8.size
                have p3u9 := o3.base_le bu8.size
                have p4u9 := o4.base_le bu8.size
                have ku9 := ku8.below bs ku8.lt
                refine hK.out _ _ bu9 (fun _ => ?_)
                clear hK K o1 o2 o3 o4 bs oau8
                refine wpAnyH_take (i := 7) (oi := ⟨_, _, _, _, _, _⟩) (v := (.tuple #[.agg HX, .int .u64 pn, .slice D3 P.length f3, .slice D4 R.length f4, .int .i64 0])) rfl (by kernel_rfl) (by kernel_rfl) (by kernel_rfl) (fun _ _ _ h => h) (Or.inl ⟨by rfl, fun w _ => rfl⟩) bu9 ?_
                simp only [Act.put, List.setIfInBounds_toArray, List.set_cons_zero, List.set_cons_succ]
                refine wpAnyH_take (i := 8) (oi := ⟨_, _, _, _, _, _⟩) (v := (.agg HX)) rfl (by kernel_rfl) (by kernel_rfl) (by kernel_rfl) (fun _ _ _ h => h) (Or.inl ⟨by rfl, fun w _ => rfl⟩) bu9 ?_
                simp only [Act.put, List.setIfInBounds_toArray, List.set_cons_zero, List.set_cons_succ]
                refine wpAnyH_take (i := 9) (oi := ⟨_, _, _, _, _, _⟩) (v := (.int .u64 pn)) rfl (by kernel_rfl) (by kernel_rfl) (by kernel_rfl) (fun _ _ _ h => h) (Or.inl ⟨by rfl, fun w _ => rfl⟩) bu9 ?_
                simp only [Act.put, List.setIfInBounds_toArray, List.set_cons_zero, List.set_cons_succ]
                refine wpAnyH_take (i := 10) (oi := ⟨_, _, _, _, _, _⟩) (v := (.slice D3 P.length f3)) rfl (by kernel_rfl) (by kernel_rfl) (by kernel_rfl) (fun _ _ _ h => h) (Or.inl ⟨by rfl, fun w _ => rfl⟩) bu9 ?_
                simp only [Act.put, List.setIfInBounds_toArray, List.set_cons_zero, List.set_cons_succ]
                refine wpAnyH_take (i := 11) (oi := ⟨_, _, _, _, _, _⟩) (v := (.slice D4 R.length f4)) rfl (by kernel_rfl) (by kernel_rfl) (by kernel_rfl) (fun _ _ _ h => h) (Or.inl ⟨by rfl, fun w _ => rfl⟩) bu9 ?_
                simp only [Act.put, List.setIfInBounds_toArray, List.set_cons_zero, List.set_cons_succ]
                refine wpAnyH_take (i := 12) (oi := ⟨_, _, _, _, _, _⟩) (v := (.int .i64 0)) rfl (by kernel_rfl) (by kernel_rfl) (by kernel_rfl) (fun _ _ _ h => h) (Or.inl ⟨by rfl, fun w _ => rfl⟩) bu9 ?_
                simp only [Act.put, List.setIfInBounds_toArray, List.set_cons_zero, List.set_cons_succ]
                refine wpAnyH_ready (rs := [14]) (by kernel_rfl) (by simp) ?_
                refine AllReadyH.cons rfl (fun K hK => ?_) AllReadyH.nil
                rw [if_pos (by rfl)]
                refine wp_store_mid 25 (.tmp 18) (.tmp 75) rfl gX 0 HX rfl rfl (Blk.there_ ku9 (by rw [SHX.out, SZH.out]; exact Nat.le_refl _)) (by rw [SHX.out]; exact IH.out) AHX.out ?_
                simp only [List.getElem_toArray, List.getElem_cons_succ, List.getElem_cons_zero, Act.put, List.setIfInBounds_toArray, List.set_cons_succ, List.set_cons_zero]
                have hHl : HX.toList.length = ZH.size := by rw [SZH.out, Array.length_toList]; exact SHX.out
                have gs : u9.grownBy (u9.setCells gX 0 HX.toList) (some gX) := only_setCells _ _ _ (gb_self _ _)
                have ks : Blk (u9.setCells gX 0 HX.toList) gX 25 HX := by
                  have h := ku9.setAll hHl
                  rwa [Array.toArray_toList] at h
                have bs : Below w9.heap.size w9 (u9.setCells gX 0 HX.toList) := grown_below bu9 gs bu9.size hgX
                have p1s := Rd.of_own (Own.grown p1u9 gs (fun g cur k' e => by injection e with e; subst e; exact absurd rfl (k'.ne_ ku9 (by decide))))
                have p2s := Rd.of_own (Own.grown p2u9 gs (fun g cur k' e => by injection e with e; subst e; exact absurd rfl (k'.ne_ ku9 (by decide))))
                have p3s := Rd.of_own (Own.grown p3u9 gs (fun g cur k' e => by injection e with e; subst e; exact absurd rfl (k'.ne_ ku9 (by decide))))
                have p4s := Rd.of_own (Own.grown p4u9 gs (fun g cur k' e => by injection e with e; subst e; exact absurd rfl (k'.ne_ ku9 (by decide))))
                refine hK.out _ _ bs (fun hHs => ?_)
                clear hK K
                refine wpAnyH_take (i := 15) (oi := ⟨_, _, _, _, _, _⟩) (v := (.int .u64 pn)) rfl (by kernel_rfl) (by kernel_rfl) (by kernel_rfl) (fun _ _ _ h => h) (Or.inl ⟨by rfl, fun w _ => rfl⟩) hHs ?_
                simp only [Act.put, List.setIfInBounds_toArray, List.set_cons_zero, List.set_cons_succ]
                refine wpAnyH_take (i := 16) (oi := ⟨_, _, _, _, _, _⟩) (v := (.slice D3 P.length f3)) rfl (by kernel_rfl) (by kernel_rfl) (by kernel_rfl) (fun _ _ _ h => h) (Or.inl ⟨by rfl, fun w _ => rfl⟩) hHs ?_
                simp only [Act.put, List.setIfInBounds_toArray, List.set_cons_zero, List.set_cons_succ]
                refine wpAnyH_take (i := 17) (oi := ⟨_, _, _, _, _, _⟩) (v := (.slice D4 R.length f4)) rfl (by kernel_rfl) (by kernel_rfl) (by kernel_rfl) (fun _ _ _ h => h) (Or.inl ⟨by rfl, fun w _ => rfl⟩) hHs ?_
                simp only [Act.put, List.setIfInBounds_toArray, List.set_cons_zero, List.set_cons_succ]
                refine wpAnyH_take (i := 18) (oi := ⟨_, _, _, _, _, _⟩) (v := (.int .i64 0)) rfl (by kernel_rfl) (by kernel_rfl) (by kernel_rfl) (fun _ _ _ h => h) (Or.inl ⟨by rfl, fun w _ => rfl⟩) hHs ?_
                simp only [Act.put, List.setIfInBounds_toArray, List.set_cons_zero, List.set_cons_succ]
                refine wpAnyH_done (by kernel_rfl) ?_ _
                have FIN : Hid (Blk (u9.setCells gX 0 HX.toList) gX 25 #[.bool lg, .int .i64 lv, .bool ph, .slice D1 a1.length f1, .slice D2 b1.length f2] ∧ Rd (u9.setCells gX 0 HX.toList) D1 a1 ∧ Rd (u9.setCells gX 0 HX.toList) D2 b1 ∧ Rd (u9.setCells gX 0 HX.toList) D3 P ∧ Rd (u9.setCells gX 0 HX.toList) D4 R ∧ Below w9.heap.size w9 (u9.setCells gX 0 HX.toList)) := Lib.hid ⟨by rw [← HHX.out]; exact ks, p1s, p2s, p3s, p4s, bs⟩
                clear ks p1s p2s p3s p4s bs gs hHs ku9 p1u9 p2u9 p3u9 p4u9 bu9
                generalize u9.setCells gX 0 HX.toList = wz at FIN ⊢
                go_wp2_with fail
                go_meet
                exact ⟨gX, D1, f1, D2, f2, D3, f3, D4, f4, rfl, rfl, rfl, rfl, rfl, FIN⟩
        · go_simp
          have bu10 : Below w9.heap.size w9 (u0.alloc (.cells ZH 25)) := bu0.alloc bu0.size _
          have ku10 : Blk (u0.alloc (.cells ZH 25)) u0.heap.size 25 ZH := Blk.new _ _ _
          have bs : Below u0.heap.size u0 (u0.alloc (.cells ZH 25)) := (Below.refl _ _).alloc (Nat.le_refl _) _
          have hgX := bu0.size
          refine hK.out _ _ bu10 (fun _ => ?_)
          clear hK K bs
          obtain ⟨gX, hgx⟩ : ∃ g, g = u0.heap.size := ⟨_, rfl⟩
          rw [← hgx] at ku10 hgX ⊢
          generalize u0.alloc (.cells ZH 25) = u10 at bu10 ku10 ⊢
          clear hgx
          refine wpAnyH_ready (rs := [2]) (by kernel_rfl) (by simp) ?_
          refine AllReadyH.cons rfl (fun K hK => ?_) AllReadyH.nil
          · go_simp
            refine (CCp.out u10 bu10).mono ?_
            rintro e u11 ⟨Ac, cc, rfl, oc, bs⟩
            have bu11 : Below w9.heap.size w9 u11 := bu10.trans (bs.mono bu10.size)
            have ocu11 := oc.base_le bu10.size
            have ku11 := ku10.below bs ku10.lt
            refine hK.out _ _ bu11 (fun _ => ?_)
            clear hK K oc bs
            refine wpAnyH_ready (rs := [4]) (by kernel_rfl) (by simp) ?_
            refine AllReadyH.cons rfl (fun K hK => ?_) AllReadyH.nil
            · have hr : Reads u11 u11.heap.size 1 A5 R.length (U8 R) := (SR.out.below bu11).rd
              refine step_appV rfl (.tmp 70) (.tmp 71) 23 5 1 1 (.int .u8 0) rfl Tryd.underlying23 info_u8 rfl (by decide) w9.heap.size (c := cc) (d := c5) (n := PK.length) (m := R.length) (A := Ac) (B := A5) rfl rfl ocu11 hr (U8_oneCell _) (by have h := LX.out; unfold maxLen; omega) (by have h := LX.out; omega) bu11.size ?_
              intro Aa ca u12 oa ga ba _
              have bu12 : Below w9.heap.size w9 u12 := bu11.trans ba
              have oau12 := own_appV oa rfl
              rw [HX0.out] at oau12
              rw [show PK.length + R.length = X.length from LXX.out]
              have ku12 := blk_app ku11 ocu11 ga
              refine hK.out _ _ bu12 (fun _ => ?_)
              clear hK K oa ga ba hr ocu11
              simp only [List.getElem_toArray, List.getElem_cons_succ, List.getElem_cons_zero, Act.put, List.setIfInBounds_toArray, List.set_cons_succ, List.set_cons_zero]
              refine wpAnyH_ready (rs := [6]) (by kernel_rfl) (by simp) ?_
              refine AllReadyH.cons rfl (fun K hK => ?_) AllReadyH.nil
              · go_simp
                refine (COp.out Aa ca u12 (Sl.of_own oau12)).mono ?_
                rintro e u13 ⟨D1, f1, D2, f2, D3, f3, D4, f4, rfl, o1, o2, o3, o4, bs⟩
                obtain ⟨HX, hHX⟩ : ∃ HX : Array Value, HX = #[.bool lg, .int .i64 lv, .bool ph, .slice D1 a1.length f1, .slice D2 b1.length f2] := ⟨_, rfl⟩
                rw [← hHX]
                have HHX := Lib.hid hHX
                have SHX := Lib.hid (show HX.size = 5 by rw [hHX]; rfl)
                have AHX := Lib.hid (show HX.all (·.oneCell') = true by rw [hHX]; simp [Value.oneCell'])
                clear hHX
                have bu13 : Below w9.heap.size w9 u13 := bu12.trans (bs.mono bu12.size)
                have p1u13 := o1.base_le bu12.size
                have p2u13 := o2.base_le bu12.size
                have p3u13 := o3.base_le bu12.size
                have p4u13 := o4.base_le bu12.size
                have ku13 := ku12.below bs ku12.lt
                refine hK.out _ _ bu13 (fun _ => ?_)
                clear hK K o1 o2 o3 o4 bs oau12
                refine wpAnyH_take (i := 7) (oi := ⟨_, _, _, _, _, _⟩) (v := (.tuple #[.agg HX, .int .u64 pn, .slice D3 P.length f3, .slice D4 R.length f4, .int .i64 0])) rfl (by kernel_rfl) (by kernel_rfl) (by kernel_rfl) (fun _ _ _ h => h) (Or.inl ⟨by rfl, fun w _ => rfl⟩) bu13 ?_
                simp only [Act.put, List.setIfInBounds_toArray, List.set_cons_zero, List.set_cons_succ]
                refine wpAnyH_take (i := 8) (oi := ⟨_, _, _, _, _, _⟩) (v := (.agg HX)) rfl (by kernel_rfl) (by kernel_rfl) (by kernel_rfl) (fun _ _ _ h => h) (Or.inl ⟨by rfl, fun w _ => rfl⟩) bu13 ?_
                simp only [Act.put, List.setIfInBounds_toArray, List.set_cons_zero, List.set_cons_succ]
                refine wpAnyH_take (i := 9) (oi := ⟨_, _, _, _, _, _⟩) (v := (.int .u64 pn)) rfl (by kernel_rfl) (by kernel_rfl) (by kernel_rfl) (fun _ _ _ h => h) (Or.inl ⟨by rfl, fun w _ => rfl⟩) bu13 ?_
                simp only [Act.put, List.setIfInBounds_toArray, List.set_cons_zero, List.set_cons_succ]
                refine wpAnyH_take (i := 10) (oi := ⟨_, _, _, _, _, _⟩) (v := (.slice D3 P.length f3)) rfl (by kernel_rfl) (by kernel_rfl) (by kernel_rfl) (fun _ _ _ h => h) (Or.inl ⟨by rfl, fun w _ => rfl⟩) bu13 ?_
                simp only [Act.put, List.setIfInBounds_toArray, List.set_cons_zero, List.set_cons_succ]
                refine wpAnyH_take (i := 11) (oi := ⟨_, _, _, _, _, _⟩) (v := (.slice D4 R.length f4)) rfl (by kernel_rfl) (by kernel_rfl) (by kernel_rfl) (fun _ _ _ h => h) (Or.inl ⟨by rfl, fun w _ => rfl⟩) bu13 ?_
                simp only [Act.put, List.setIfInBounds_toArray, List.set_cons_zero, List.set_cons_succ]
                refine wpAnyH_take (i := 12) (oi := ⟨_, _, _, _, _, _⟩) (v := (.int .i64 0)) rfl (by kernel_rfl) (by kernel_rfl) (by kernel_rfl) (fun _ _ _ h => h) (Or.inl ⟨by rfl, fun w _ => rfl⟩) bu13 ?_
                simp only [Act.put, List.setIfInBounds_toArray, List.set_cons_zero, List.set_cons_succ]
                refine wpAnyH_ready (rs := [14]) (by kernel_rfl) (by simp) ?_
                refine AllReadyH.cons rfl (fun K hK => ?_) AllReadyH.nil
                rw [if_pos (by rfl)]
                refine wp_store_mid 25 (.tmp 18) (.tmp 75) rfl gX 0 HX rfl rfl (Blk.there_ ku13 (by rw [SHX.out, SZH.out]; exact Nat.le_refl _)) (by rw [SHX.out]; exact IH.out) AHX.out ?_
                simp only [List.getElem_toArray, List.getElem_cons_succ, List.getElem_cons_zero, Act.put, List.setIfInBounds_toArray, List.set_cons_succ, List.set_cons_zero]
                have hHl : HX.toList.length = ZH.size := by rw [SZH.out, Array.length_toList]; exact SHX.out
                have gs : u13.grownBy (u13.setCells gX 0 HX.toList) (some gX) := only_setCells _ _ _ (gb_self _ _)
                have ks : Blk (u13.setCells gX 0 HX.toList) gX 25 HX := by
                  have h := ku13.setAll hHl
                  rwa [Array.toArray_toList] at h
                have bs : Below w9.heap.size w9 (u13.setCells gX 0 HX.toList) := grown_below bu13 gs bu13.size hgX
                have p1s := Rd.of_own (Own.grown p1u13 gs (fun g cur k' e => by injection e with e; subst e; exact absurd rfl (k'.ne_ ku13 (by decide))))
                have p2s := Rd.of_own (Own.grown p2u13 gs (fun g cur k' e => by injection e with e; subst e; exact absurd rfl (k'.ne_ ku13 (by decide))))
                have p3s := Rd.of_own (Own.grown p3u13 gs (fun g cur k' e => by injection e with e; subst e; exact absurd rfl (k'.ne_ ku13 (by decide))))
                have p4s := Rd.of_own (Own.grown p4u13 gs (fun g cur k' e => by injection e with e; subst e; exact absurd rfl (k'.ne_ ku13 (by decide))))
                refine hK.out _ _ bs (fun hHs => ?_)
                clear hK K
                refine wpAnyH_take (i := 15) (oi := ⟨_, _, _, _, _, _⟩) (v := (.int .u64 pn)) rfl (by kernel_rfl) (by kernel_rfl) (by kernel_rfl) (fun _ _ _ h => h) (Or.inl ⟨by rfl, fun w _ => rfl⟩) hHs ?_
                simp only [Act.put, List.setIfInBounds_toArray, List.set_cons_zero, List.set_cons_succ]
                refine wpAnyH_take (i := 16) (oi := ⟨_, _, _, _, _, _⟩) (v := (.slice D3 P.length f3)) rfl (by kernel_rfl) (by kernel_rfl) (by kernel_rfl) (fun _ _ _ h => h) (Or.inl ⟨by rfl, fun w _ => rfl⟩) hHs ?_
                simp only [Act.put, List.setIfInBounds_toArray, List.set_cons_zero, List.set_cons_succ]
                refine wpAnyH_take (i := 17) (oi := ⟨_, _, _, _, _, _⟩) (v := (.slice D4 R.length f4)) rfl (by kernel_rfl) (by kernel_rfl) (by kernel_rfl) (fun _ _ _ h => h) (Or.inl ⟨by rfl, fun w _ => rfl⟩) hHs ?_
                simp only [Act.put, List.setIfInBounds_toArray, List.set_cons_zero, List.set_cons_succ]
                refine wpAnyH_take (i := 18) (oi := ⟨_, _, _, _, _, _⟩) (v := (.int .i64 0)) rfl (by kernel_rfl) (by kernel_rfl) (by kernel_rfl) (fun _ _ _ h => h) (Or.inl ⟨by rfl, fun w _ => rfl⟩) hHs ?_
                simp only [Act.put, List.setIfInBounds_toArray, List.set_cons_zero, List.set_cons_succ]
                refine wpAnyH_done (by kernel_rfl) ?_ _
                have FIN : Hid (Blk (u13.setCells gX 0 HX.toList) gX 25 #[.bool lg, .int .i64 lv, .bool ph, .slice D1 a1.length f1, .slice D2 b1.length f2] ∧ Rd (u13.setCells gX 0 HX.toList) D1 a1 ∧ Rd (u13.setCells gX 0 HX.toList) D2 b1 ∧ Rd (u13.setCells gX 0 HX.toList) D3 P ∧ Rd (u13.setCells gX 0 HX.toList) D4 R ∧ Below w9.heap.size w9 (u13.setCells gX 0 HX.toList)) := Lib.hid ⟨by rw [← HHX.out]; exact ks, p1s, p2s, p3s, p4s, bs⟩
                clear ks p1s p2s p3s p4s bs gs hHs ku13 p1u13 p2u13 p3u13 p4u13 bu13
                generalize u13.setCells gX 0 HX.toList = wz at FIN ⊢
                go_wp2_with fail
                go_meet
                exact ⟨gX, D1, f1, D2, f2, D3, f3, D4, f4, rfl, rfl, rfl, rfl, rfl, FIN⟩
      case rest =>
        obtain ⟨gX, D1, f1, D2, f2, D3, f3, D4, f4, rfl, rfl, rfl, rfl, rfl, HC⟩ := hcut
        rename World => wq
        have bq := HC.out.2.2.2.2.2
        have BLq := Lib.hid (BL9.out.trans (bq.mono BL9.out.size))
        have Hq := H9.out.below bq H9.out.lt
        rw [HHB.out] at Hq
        have CS1 := Lib.hid (CSH.out D1 D2 f1 f2 wq HC.out.2.1 HC.out.2.2.1 (OA9.out.below bq).rd (OB9.out.below bq).rd)
        have BASE := Lib.hid bq
        have x0 := HC.out.1.cell 0
        have x1 := HC.out.1.cell 1
        have x2 := HC.out.1.cell 2
        have x3 := HC.out.1.cell 3
        have x4 := HC.out.1.cell 4
        have y0 := Hq.cell 0
        have y1 := Hq.cell 1
        have y2 := Hq.cell 2
        have y3 := Hq.cell 3
        have y4 := Hq.cell 4
        clear bq Hq
        go_wp2_with (first
          | (go_at_call 15; (with_reducible refine CS1.out.mono ?_); rintro e w12 ⟨rfl, b12⟩
             have BL12 := Lib.hid (BLq.out.trans (b12.mono BLq.out.size))
             have CSm1 := Lib.hid (CSm.out D3 A3 f3 c3 w12 (HC.out.2.2.2.1.below b12) ((OP9.out.below BASE.out).below b12).rd)
             have CSr1 := Lib.hid (CSr.out D4 A5 f4 c5 w12 (HC.out.2.2.2.2.1.below b12) ((SR.out.below BASE.out).below b12).rd)
             clear b12)
          | (go_at_call 16; (with_reducible refine CSm1.out.mono ?_); rintro e w13 ⟨rfl, rfl⟩)
          | (go_at_call 16; (with_reducible refine CSr1.out.mono ?_); rintro e w14 ⟨rfl, rfl⟩))
        go_ret
        exact ⟨rfl, BL12.out⟩
  · have hno : s + P.length < 4 ∨ rightB lg lv ph a1 b1 = false := by
      by_cases h : s + P.length < 4
      · exact .inl h
      · refine .inr ?_
        cases hr : rightB lg lv ph a1 b1
        · rfl
        · exact absurd ⟨hr, by omega⟩ hok
    have CCn := Lib.hid (Close_no key iv mask a1 b1 P lg lv ph A2 B2 A3 c2 d2 c3 pn s w8 SA8.out SB8.out (by omega) hs14 (by omega) hno T8.out)
    have CRt := Lib.hid (fun W => Right_any lg lv ph A2 a1 c2 B2 b1 d2 W)
    rw [EKV.out] at CCn
    unfold HV at CCn CRt
    rw [← HHB.out] at CCn CRt
    clear hok
    cases hrb : rightB lg lv ph a1 b1
    all_goals
      rw [hrb] at CRt
      have h61 : decide ((P.length : Int) + (s : Int) < 4) = true ∨ rightB lg lv ph a1 b1 = false := by
        rcases hno with h | h
        · left; simp; omega
        · exact .inr h
      rw [hrb] at h61
      have H61 := Lib.hid h61
      clear h61 hrb hno
    · go_wp2_with (first
        | refine wpList_load_row rfl 34 (.tmp 15) rfl gK rfl 34 KL.toArray (0, 0) _ K8.out Tryd.underlying34 rfl (by rw [SKA.out]; exact I76.out) ?_
        | refine wpList_load_row rfl 25 (.tmp 7) rfl gH rfl 25 HB (0, 0) _ H8.out Tryd.underlying25 rfl (by rw [SHB.out]; exact IH.out) ?_
        | (go_at_call 11; (with_reducible refine CCn.out.mono ?_); rintro e w9 ⟨E, hE0, rfl, b9⟩
           have hz : (E == 0) = false := by simpa using hE0
           have BL9 := Lib.hid (BL8.out.trans (b9.mono BL8.out.size))
           have H9 := Lib.hid (H8.out.below b9 H8.out.lt)
           clear b9)
        | refine wpList_load_row rfl 25 (.tmp 7) rfl gH rfl 25 HB (0, 0) _ H9.out Tryd.underlying25 rfl (by rw [SHB.out]; exact IH.out) ?_
        | (go_at_call 12; (with_reducible refine (CRt.out _).mono ?_); rintro e w10 ⟨rfl, b10⟩
           have BL10 := Lib.hid (BL9.out.trans (b10.mono BL9.out.size))
           clear b10))
      go_ret
      exact ⟨rfl, BL10.out⟩
    · have h61 := H61.out.resolve_right (by decide)
      go_wp2_with (first
        | refine wpList_load_row rfl 34 (.tmp 15) rfl gK rfl 34 KL.toArray (0, 0) _ K8.out Tryd.underlying34 rfl (by rw [SKA.out]; exact I76.out) ?_
        | refine wpList_load_row rfl 25 (.tmp 7) rfl gH rfl 25 HB (0, 0) _ H8.out Tryd.underlying25 rfl (by rw [SHB.out]; exact IH.out) ?_
        | (go_at_call 11; (with_reducible refine CCn.out.mono ?_); rintro e w9 ⟨E, hE0, rfl, b9⟩
           have hz : (E == 0) = false := by simpa using hE0
           have BL9 := Lib.hid (BL8.out.trans (b9.mono BL8.out.size))
           have H9 := Lib.hid (H8.out.below b9 H8.out.lt)
           clear b9)
        | refine wpList_load_row rfl 25 (.tmp 7) rfl gH rfl 25 HB (0, 0) _ H9.out Tryd.underlying25 rfl (by rw [SHB.out]; exact IH.out) ?_
        | (go_at_call 12; (with_reducible refine (CRt.out _).mono ?_); rintro e w10 ⟨rfl, b10⟩
           have BL10 := Lib.hid (BL9.out.trans (b10.mono BL9.out.size))
           clear b10))
      go_ret
      exact ⟨rfl, BL10.out⟩
end Go.Proofs.YtjibbegdieiknaaDoor
