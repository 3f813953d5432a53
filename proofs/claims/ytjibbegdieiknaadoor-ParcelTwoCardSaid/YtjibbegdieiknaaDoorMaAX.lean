/-
  parcel.Close of a packet that can be.
-/
import Derived.Test.YtjibbegdieiknaaDoorMaAU
import Derived.Test.YtjibbegdieiknaaDoorMaAW
import Derived.Test.YtjibbegdieiknaaDoorMaAV
namespace Go.Proofs.YtjibbegdieiknaaDoor
open Go.RowKit
set_option maxRecDepth 100000
set_option linter.unusedVariables false
set_option linter.unusedSimpArgs false

/-- A packet's bytes. -/
def headL (lg : Bool) (lv : Int) (ph : Bool) (a b : List Int) (pn : Int) (s n : Nat) : List Int := firS lg lv ph s :: (midS lg lv a b ((s : Int) + ((n : Int) + 16)) ++ be pn s)
def sealL (lg : Bool) (lv : Int) (ph : Bool) (a b : List Int) (pn : Int) (s : Nat) (key iv plain : List Int) : List Int := closeL key (nonceP iv pn) plain (headL lg lv ph a b pn s plain.length)
def atL (lg : Bool) (lv : Int) (a b : List Int) (s n : Nat) : Nat := 1 + (midS lg lv a b ((s : Int) + ((n : Int) + 16))).length
def maskP (lg : Bool) (lv : Int) (ph : Bool) (a b : List Int) (pn : Int) (s : Nat) (key iv mask plain : List Int) : List Int :=
  maskL mask (((headL lg lv ph a b pn s plain.length ++ sealL lg lv ph a b pn s key iv plain).drop (atL lg lv a b s plain.length + 4)).take 16)
def closeP (lg : Bool) (lv : Int) (ph : Bool) (a b : List Int) (pn : Int) (s : Nat) (key iv mask plain : List Int) : List Int :=
  pkt (firS lg lv ph s) (midS lg lv a b ((s : Int) + ((plain.length : Int) + 16))) (be pn s) (sealL lg lv ph a b pn s key iv plain) (maskP lg lv ph a b pn s key iv mask plain)
theorem headL_length (lg : Bool) (lv : Int) (ph : Bool) (a b : List Int) (pn : Int) (s n : Nat) : (headL lg lv ph a b pn s n).length = atL lg lv a b s n + s := by
  rw [headL, atL, List.length_cons, List.length_append, be_length]; omega
theorem byE_zero {lg : Bool} {lv : Int} {ph : Bool} {a b : List Int} {s n : Nat} (hs : 1 ≤ s ∧ s ≤ 4) (hn : n ≤ 1000) (hr : rightB lg lv ph a b = true) : byE lg lv ph a b s ((n : Int) + 16) = 0 := by
  rw [byE, if_neg (by omega), if_neg (by omega), hr]; rfl
theorem wenc2_bytes (z : Int) (h : 0 ≤ z ∧ z < 16384) : Bytes (wenc z 2) := by
  have e : wenc z 2 = [z / 256 % 256 + 64, z % 256] := by simp [wenc, be, vtag]
  rw [e]
  intro x hx
  simp at hx
  rcases hx with rfl | rfl <;> omega
theorem mid_bytes {lg : Bool} {lv : Int} {ph : Bool} {a b : List Int} {z : Int} (hr : rightB lg lv ph a b = true) (ha : Bytes a) (hb : Bytes b) (hz : 0 ≤ z ∧ z < 16384) : Bytes (midS lg lv a b z) := by
  rcases right_cases hr with ⟨rfl, hlv, ha2, hb2, rfl⟩ | ⟨rfl, rfl, ha2, rfl⟩
  · rw [midS, if_pos rfl]
    refine Bytes.append (Bytes.append (Bytes.append (Bytes.append (Bytes.append ?_ ha) ?_) hb) ?_) (wenc2_bytes z hz)
    · intro x hx; simp at hx; rcases hx with rfl | rfl | rfl <;> omega
    · intro x hx; simp at hx; omega
    · intro x hx; split at hx <;> simp at hx; omega
  · exact ha
theorem headL_bytes {lg : Bool} {lv : Int} {ph : Bool} {a b : List Int} {pn : Int} {s n : Nat} (hr : rightB lg lv ph a b = true) (ha : Bytes a) (hb : Bytes b) (hs : 1 ≤ s ∧ s ≤ 4) (hn : n ≤ 1000) : Bytes (headL lg lv ph a b pn s n) := by
  have hf : 0 ≤ firS lg lv ph s ∧ firS lg lv ph s < 256 := by
    rcases right_cases hr with ⟨rfl, hlv, _, _, rfl⟩ | ⟨rfl, rfl, _, _⟩
    · unfold firS; simp only [if_true]; omega
    · unfold firS; simp only [Bool.false_eq_true, if_false]; split <;> omega
  intro x hx
  rw [headL, List.mem_cons, List.mem_append] at hx
  rcases hx with rfl | hx | hx
  · exact hf
  · exact mid_bytes hr ha hb (by omega) x hx
  · exact be_bytesP pn s x hx

theorem yields_field {P : Program} {ops : Array Oper} {S : World → Prop} {op : Oper} {a : Act} {r : Value} (hw : Region.wanted op (yielded ops a.tmps) = true) (t : TypeId) (x : Operand) (f : Nat) (ho : op.op = .fieldAddr t x f)
    (h : ∀ w, (Instr.fieldAt t (a.eval x) f).run P w = .ok r w) : YieldsIf P ops S op r a :=
  .inl ⟨hw, fun w _ => by
    unfold execOp
    simp only [ho, Sem.run_bind, Sem.run_pure, h w, Result.andThen_ok]⟩
theorem field_key (g : Nat) (w : World) : (Instr.fieldAt 34 (.pointer (some ⟨g, 0, none⟩)) 0).run Tryd.prog w = .ok (.pointer (some ⟨g, 0, none⟩)) w := rfl
theorem field_mask (g : Nat) (w : World) : (Instr.fieldAt 34 (.pointer (some ⟨g, 0, none⟩)) 2).run Tryd.prog w = .ok (.pointer (some ⟨g, 44, none⟩)) w := rfl

theorem slice_glh (g L c j k : Nat) (hj : j < k) (hk : k ≤ L) (hc : L ≤ c) (w : World) : (Instr.slice 23 (.slice (some ⟨g, 0, none⟩) L c) (some (.int .i64 (j : Int))) (some (.int .i64 (k : Int))) none).run Tryd.prog w = .ok (.slice (some ⟨g, j, none⟩) (k - j) (c - j)) w := by
  rw [run_slice_lh (P := Tryd.prog) w 23 (some ⟨g, 0, none⟩) L c (by rw [elem_u8]; exact Tryd.underlying23) .i64 .i64 (j : Int) (k : Int) (by omega) (by omega) (by omega), elem_u8, run_sizeOf_u8]
  have h : ¬ c = j := by omega
  simp [sliced, h, Addr.add]
  intro h; exact h.symm
theorem own_appV {w : World} {base c m : Nat} {A : Option Addr} {l news : List Int} (h : OwnV w base 5 1 A c (l.length + m) (U8 l ++ U8 news)) (hm : m = news.length) : Own w base A c (l ++ news) := by
  subst hm
  unfold Own
  rw [List.length_append, U8_append]
  exact h
theorem Own.len (l : List Int) {n : Nat} (h : l.length = n) (A : Option Addr) (c : Nat) : Value.slice A n c = Value.slice A l.length c := by rw [h]

set_option maxHeartbeats 6400000 in
theorem Close_ok (key iv mask a b plain : List Int) (lg : Bool) (lv : Int) (ph : Bool) (A B C : Option Addr) (c d e : Nat) (pn : Int) (s : Nat) (w : World)
    (hk : key.length = 32) (hkb : Bytes key) (hi : iv.length = 12) (hib : Bytes iv) (hm : mask.length = 32) (hmb : Bytes mask)
    (ha : Sl w A c a) (hb : Sl w B d b) (hab : Bytes a) (hbb : Bytes b) (hpn : 0 ≤ pn ∧ pn ≤ 4611686018427387903) (hs : 1 ≤ s ∧ s ≤ 4)
    (hp : Sl w C e plain) (hpb : Bytes plain) (hpl : plain.length ≤ 1000) (h4 : 4 ≤ s + plain.length) (hr : rightB lg lv ph a b = true) (ht : Tab w) :
    Calls Tryd.prog 11 #[KV key iv mask, HV lg lv ph A a c B b d, .int .u64 pn, .int .i64 (s : Int), .slice C plain.length e] w fun r w' =>
      ∃ A' c', r = .returned (.tuple #[.slice A' (closeP lg lv ph a b pn s key iv mask plain).length c', .int .i64 0]) ∧ Own w' w.heap.size A' c' (closeP lg lv ph a b pn s key iv mask plain) ∧ Below w.heap.size w w' := by
  have hE := byE_zero (n := plain.length) hs hpl hr
  obtain ⟨H, hH⟩ : ∃ H, H = headL lg lv ph a b pn s plain.length := ⟨_, rfl⟩
  obtain ⟨T, hT⟩ : ∃ T, T = atL lg lv a b s plain.length := ⟨_, rfl⟩
  obtain ⟨S, hS⟩ : ∃ S, S = sealL lg lv ph a b pn s key iv plain := ⟨_, rfl⟩
  obtain ⟨M, hM⟩ : ∃ M, M = maskP lg lv ph a b pn s key iv mask plain := ⟨_, rfl⟩
  have hHl : H.length = T + s := by rw [hH, hT]; exact headL_length _ _ _ _ _ _ _ _
  have hT1 : 1 ≤ T := by rw [hT, atL]; omega
  have hHb : Bytes H := by rw [hH]; exact headL_bytes hr hab hbb hs hpl
  have hSl : S.length = plain.length + 16 := by rw [hS, sealL, closeL_length]
  have hnb := nonceP_bytes hib pn
  have hnl : (nonceP iv pn).length = 12 := by rw [nonceP_length, hi]
  have hSb : Bytes S := by rw [hS, sealL, closeL]; exact Bytes.append (encE_bytes hpb) (sealT_bytes _ _ _ _)
  have hMl : M.length = 5 := by rw [hM]; exact maskL_length _ _
  have hMb : Bytes M := by rw [hM]; exact maskL_bytes _ _
  have hTl : T ≤ 100 := by
    rw [hT, atL, midS]
    rcases right_cases hr with ⟨rfl, hlv, h1, h2, rfl⟩ | ⟨rfl, rfl, h1, rfl⟩
    · simp only [if_true, List.length_append, wenc_length _ _ (show 1 ≤ 2 by omega)]
      have : ((if lv = 0 then [0] else []) : List Int).length ≤ 1 := by split <;> simp
      simp; omega
    · simp only [Bool.false_eq_true, if_false]; omega
  obtain ⟨F, hF⟩ : ∃ F, F = firS lg lv ph s := ⟨_, rfl⟩
  obtain ⟨G, hG⟩ : ∃ G, G = midS lg lv a b ((s : Int) + ((plain.length : Int) + 16)) ++ be pn s ++ S := ⟨_, rfl⟩
  have hX : H ++ S = F :: G := by rw [hH, headL, hF, hG]; simp
  have hFr : 0 ≤ F ∧ F < 256 := hHb F (by rw [hH, headL, ← hF]; simp)
  have hP : closeP lg lv ph a b pn s key iv mask plain = xorK ((F :: G).set 0 (mF F (M.getD 0 0))) T M s := by
    have h := pkt_is F (midS lg lv a b ((s : Int) + ((plain.length : Int) + 16))) (be pn s) S M
    rw [be_length] at h
    rw [closeP, ← hF, ← hS, ← hM, ← h, hG, hT, atL]
  obtain ⟨P, hPP⟩ : ∃ P, P = closeP lg lv ph a b pn s key iv mask plain := ⟨_, rfl⟩
  rw [← hPP] at hP ⊢
  have CB := Lib.hid (fun W (ha : Sl W A c a) (hb : Sl W B d b) (ht : Tab W) => Bytes_u lg lv ph A a c B b d pn s ((plain.length : Int) + 16) W ha hb (by omega) ht)
  unfold ByQ at CB
  rw [by_form hE, hE, show firS lg lv ph s :: (midS lg lv a b ((s : Int) + ((plain.length : Int) + 16)) ++ be pn s) = H from hH.symm] at CB
  unfold HV at CB
  unfold HV
  obtain ⟨HA, hHA⟩ : ∃ HA : Array Value, HA = #[.bool lg, .int .i64 lv, .bool ph, .slice A a.length c, .slice B b.length d] := ⟨_, rfl⟩
  have SHA := Lib.hid (show HA.size = 5 by rw [hHA]; rfl)
  rw [← hHA] at CB ⊢
  have CN := Lib.hid (fun W => nonce_any key iv mask pn W hk hi hm hib (by omega))
  obtain ⟨NL, hNL⟩ : ∃ NL, NL = IV .u8 (nonceP iv pn) := ⟨_, rfl⟩
  obtain ⟨KL, hKL⟩ : ∃ KL, KL = IV .u8 key := ⟨_, rfl⟩
  obtain ⟨QL, hQL⟩ : ∃ QL, QL = IV .u8 (key ++ iv ++ mask) := ⟨_, rfl⟩
  obtain ⟨MK, hMK⟩ : ∃ MK, MK = IV .u8 mask := ⟨_, rfl⟩
  rw [show KV key iv mask = .agg QL.toArray by rw [hQL]; rfl] at CN ⊢
  rw [← hNL] at CN
  obtain ⟨MA, hMA⟩ : ∃ MA, MA = (IV .u8 M).toArray := ⟨_, rfl⟩
  have CC := Lib.hid (fun (A1 : Option Addr) (c1 : Nat) W (h1 : Sl W C e plain) (h2 : Rd W A1 H) (h3 : H.length ≤ c1) (h4 : c1 ≤ 9223372036854775807) => Close_any key (nonceP iv pn) plain H C A1 e c1 W hk hkb hnl hnb h1.rd hpb h1.le h1.max h2 hHb h3 h4 (by omega))
  rw [show closeL key (nonceP iv pn) plain H = S by rw [hS, sealL, ← hH], ← hNL, ← hKL] at CC
  have hXl : (F :: G).length = T + s + plain.length + 16 := by rw [← hX, List.length_append, hHl, hSl]; omega
  have hXb : Bytes (F :: G) := by rw [← hX]; exact Bytes.append hHb hSb
  have CM := Lib.hid (fun (A1 : Option Addr) (c1 : Nat) W (h1 : Rd W A1 (F :: G)) (h2 : (F :: G).length ≤ c1) (h3 : c1 ≤ 9223372036854775807) => maskOf_any A1 c1 (F :: G) T mask W h1 hXb (by omega) h2 h3 hm hmb)
  rw [show maskL mask (((F :: G).drop (T + 4)).take 16) = M by rw [hM, maskP, ← hT, ← hX, hH, hS], ← hMK, ← hMA] at CM
  have CF := Lib.hid (fun W => maskFirst_any F M W hFr hMl)
  obtain ⟨F2, hF2⟩ : ∃ F2, F2 = mF F (M.getD 0 0) := ⟨_, rfl⟩
  rw [← hMA, ← hF2] at CF
  have CX := Lib.hid (fun (g4 c4 base : Nat) W (o : Own W base (some ⟨g4, 0, none⟩) c4 (F2 :: G)) (hc : (F2 :: G).length ≤ c4) => maskNumber_any g4 c4 T s (c4 - T) base (F2 :: G) M W o hs.2 (by simp only [List.length_cons] at hXl ⊢; omega) hMl (by simp only [List.length_cons] at hXl hc; omega) (by simp))
  rw [← hMA, show xorK (F2 :: G) T M s = P by rw [hP, List.set_cons_zero, hF2]] at CX
  have hPl : P.length = T + s + plain.length + 16 := by rw [hP, xorK_length, List.length_set]; exact hXl
  have hGl : G.length + 1 = T + s + plain.length + 16 := by rw [← hXl]; rfl
  have e1 : decide ((4611686018427387903 : Int) < pn) = false := by simp; omega
  have e2 : decide ((s : Int) < 1) = false := by simp; omega
  have e3 : decide ((4 : Int) < (s : Int)) = false := by simp; omega
  have e4 : decide ((s : Int) + (plain.length : Int) < 4) = false := by simp; omega
  have z1 : (H.length : Int) - (s : Int) = (T : Int) := by omega
  have KR := Lib.hid (fun (w : World) (g : Nat) (b : Blk w g 34 (IV .u8 (key ++ iv ++ mask)).toArray) => keys_range hk hi b)
  rw [← hKL, ← hMK] at KR
  have SQ := Lib.hid (show QL.length = 76 by rw [hQL, IV_length]; simp; omega)
  have hu32 := Tryd.underlying22
  have huQ := Tryd.underlying34
  have hi32 := Lib.hid (show (Tryd.prog.info? 22).map (·.size) = some KL.length by rw [hKL, IV_length, hk]; kernel_rfl)
  have hiM := Lib.hid (show (Tryd.prog.info? 22).map (·.size) = some MK.length by rw [hMK, IV_length, hm]; kernel_rfl)
  have hiQ := Lib.hid (show (Tryd.prog.info? 34).map (·.size) = some QL.length by rw [SQ.out]; kernel_rfl)
  have SMA := Lib.hid (show MA.size = 5 by rw [hMA]; simp [IV, hMl])
  have hi5 := Lib.hid (show (Tryd.prog.info? 59).map (·.size) = some MA.size by rw [SMA.out]; kernel_rfl)
  have hi5L := Lib.hid (show (Tryd.prog.info? 59).map (·.size) = some MA.toList.length by rw [Array.length_toList, SMA.out]; kernel_rfl)
  have hu5 := Tryd.underlying59
  have AMA := Lib.hid (show MA.all (·.oneCell') = true by rw [hMA]; simp [IV, Value.oneCell'])
  obtain ⟨Z, hZ⟩ : ∃ Z, Z = (IV .u8 (List.replicate 5 0)).toArray := ⟨_, rfl⟩
  have hz5 : ∀ w, (zeroValue 59).run Tryd.prog w = .ok (.agg Z) w := by rw [hZ]; exact zero5
  have ZS := Lib.hid (show Z.size = 5 by rw [hZ]; simp [IV])
  have HZM := Lib.hid (show ∃ l, MA = (IV .u8 l).toArray ∧ l.length = 5 from ⟨M, hMA, hMl⟩)
  have HX := Lib.hid hX
  have HL := Lib.hid hHl
  have SL := Lib.hid hSl
  have PL := Lib.hid hPl
  have GL := Lib.hid hGl
  have XL := Lib.hid hXl
  have HT1 := Lib.hid hT1
  have HTl := Lib.hid hTl
  have HS := Lib.hid hs
  obtain ⟨nP, hnP⟩ : ∃ n : Nat, n = plain.length := ⟨_, rfl⟩
  have HNP := Lib.hid hnP
  have HPL := Lib.hid hpl
  have SC := Lib.hid hp
  have SA := Lib.hid ha
  have SB := Lib.hid hb
  have HTB := Lib.hid ht
  have HXB := Lib.hid hXb
  have HQL := Lib.hid hQL
  clear hH hT hS hM hHl hT1 hHb hSl hnb hnl hSb hMl hMb hF hG hX hFr hP hPP hNL hKL hQL hMK hXl hXb hF2 hPl hGl hZ hE hk hkb hi hib hm hmb ha hb hab hbb hpn hp hpb h4 hr ht hnP hMA hHA
  go_enter Tryd.func11, Tryd.ntmps11
  go_upto_region 1 with fail
  obtain ⟨W, hW⟩ : ∃ W, W = (w.alloc (.cells QL.toArray 34)).alloc (.cells HA 25) := ⟨_, rfl⟩
  have bQ := Lib.hid (show Blk W w.heap.size 34 QL.toArray by rw [hW]; exact (Blk.new w _ _).alloc _)
  have bH := Lib.hid (show Blk W (w.heap.size + 1) 25 HA by rw [hW]; exact blk_second w _ _ _)
  have bL := Lib.hid (show Below w.heap.size w W by rw [hW]; exact ((Below.refl _ _).alloc (Nat.le_refl _) _).alloc (by simp) _)
  show Code.wp _ _ _ _ ((w.alloc (.cells QL.toArray 34)).alloc (.cells HA 25))
  rw [← hW]
  have C1 := Lib.hid (CB.out W (SA.out.below bL.out) (SB.out.below bL.out) (HTB.out.below bL.out))
  clear hW CB
  go_wp2_with (first
    | refine wpList_load_row rfl 25 (.tmp 6) rfl (w.heap.size + 1) rfl 25 HA (0, 0) _ bH.out Tryd.underlying25 rfl (by rw [SHA.out]; kernel_rfl) ?_
    | (go_at_call 23; refine C1.out.mono ?_; rintro r w1 ⟨A1, c1, rfl, o1, b1⟩
       obtain ⟨g1, hA1, hg1, hl1⟩ := o1.form (by have h1 := HL.out; have h2 := HT1.out; omega)
       subst hA1
       have O1 := Lib.hid o1
       have B1 := Lib.hid (bL.out.trans (b1.mono bL.out.size))
       have Q1 := Lib.hid (bQ.out.below b1 bQ.out.lt)
       have b1s := Lib.hid (show w.heap.size + 1 < g1 from Nat.lt_of_lt_of_le bH.out.lt hg1)
       have G1 := Lib.hid (show w.heap.size ≤ g1 ∧ g1 < w1.heap.size from ⟨Nat.le_trans bL.out.size hg1, hl1⟩)
       clear o1 b1 hg1 hl1))
  -- what is sealed, behind the head
  have KS := Lib.hid (show ∀ w', Below w1.heap.size w1.drew w' → (w'.rangeAt w.heap.size 0 KL ∧ w'.rangeAt w.heap.size 0 QL) from fun w' hb => by
    have h := (show Blk w1.drew w.heap.size _ _ from Q1.out).below hb Q1.out.lt
    exact ⟨(KR.out w' _ (by rw [← HQL.out]; exact h)).1, h.range⟩)
  have O1d := Lib.hid (show Own w1.drew W.heap.size (some ⟨g1, 0, none⟩) c1 H from O1.out)
  have SC1 := Lib.hid (show Sl w1.drew C e plain from (SC.out.below B1.out.drew))
  have B1d := Lib.hid (show Below w.heap.size w w1.drew from B1.out.drew)
  clear C1 SA SB HTB
  refine wp_region_held_drew (S := fun w' => w'.rangeAt w.heap.size 0 KL ∧ w'.rangeAt w.heap.size 0 QL) (by kernel_rfl) (KS.out _ (Below.refl _ _)) (fun hHeld => ?_)
  refine wpAnyH_take (i := 0) (oi := ⟨_, _, _, _, _, _⟩) (v := (.slice (some ⟨g1, 0, none⟩) H.length c1)) rfl (by kernel_rfl) (by kernel_rfl) (by kernel_rfl) (fun _ _ _ h => h) (Or.inl ⟨by rfl, fun w _ => rfl⟩) hHeld ?_
  simp only [Act.put, List.setIfInBounds_toArray, List.set_cons_zero, List.set_cons_succ]
  refine wpAnyH_take (i := 1) (oi := ⟨_, _, _, _, _, _⟩) rfl (by kernel_rfl) (by kernel_rfl) (by kernel_rfl) (fun _ _ _ h => h) (yields_field (r := .pointer (some ⟨w.heap.size, 0, none⟩)) (by rfl) 34 (.tmp 5) 0 rfl (fun w' => field_key _ w')) hHeld ?_
  simp only [Act.put, List.setIfInBounds_toArray, List.set_cons_zero, List.set_cons_succ]
  refine wpAnyH_take (i := 2) (oi := ⟨_, _, _, _, _, _⟩) rfl (by kernel_rfl) (by kernel_rfl) (by kernel_rfl) (fun _ _ _ h => h) (yieldsIf_load_mid (by rfl) 22 (.tmp 49) rfl w.heap.size 0 rfl KL _ (fun w h => h.1) hu32 rfl hi32.out) hHeld ?_
  simp only [Act.put, List.setIfInBounds_toArray, List.set_cons_zero, List.set_cons_succ]
  refine wpAnyH_take (i := 3) (oi := ⟨_, _, _, _, _, _⟩) rfl (by kernel_rfl) (by kernel_rfl) (by kernel_rfl) (fun _ _ _ h => h) (yieldsIf_load_mid (by rfl) 34 (.tmp 5) rfl w.heap.size 0 rfl QL _ (fun w h => h.2) huQ rfl hiQ.out) hHeld ?_
  simp only [Act.put, List.setIfInBounds_toArray, List.set_cons_zero, List.set_cons_succ]
  refine wpAnyH_take (i := 4) (oi := ⟨_, _, _, _, _, _⟩) (v := (.int .u64 pn)) rfl (by kernel_rfl) (by kernel_rfl) (by kernel_rfl) (fun _ _ _ h => h) (Or.inl ⟨by rfl, fun w _ => rfl⟩) hHeld ?_
  simp only [Act.put, List.setIfInBounds_toArray, List.set_cons_zero, List.set_cons_succ]
  refine wpAnyH_take (i := 6) (oi := ⟨_, _, _, _, _, _⟩) (v := (.slice C plain.length e)) rfl (by kernel_rfl) (by kernel_rfl) (by kernel_rfl) (fun _ _ _ h => h) (Or.inl ⟨by rfl, fun w _ => rfl⟩) hHeld ?_
  simp only [Act.put, List.setIfInBounds_toArray, List.set_cons_zero, List.set_cons_succ]
  refine wpAnyH_take (i := 7) (oi := ⟨_, _, _, _, _, _⟩) (v := (.slice (some ⟨g1, 0, none⟩) H.length c1)) rfl (by kernel_rfl) (by kernel_rfl) (by kernel_rfl) (fun _ _ _ h => h) (Or.inl ⟨by rfl, fun w _ => rfl⟩) hHeld ?_
  simp only [Act.put, List.setIfInBounds_toArray, List.set_cons_zero, List.set_cons_succ]
  refine wpAnyH_ready (rs := [5]) (by kernel_rfl) (by simp) ?_
  refine AllReadyH.cons rfl (fun K hK => ?_) AllReadyH.nil
  go_simp
  refine (CN.out w1.drew).mono ?_
  rintro e2 w2 ⟨rfl, b2⟩
  refine hK.out _ _ (KS.out _ b2) (fun hHeld2 => ?_)
  clear hK K hHeld
  refine wpAnyH_ready (rs := [8]) (by kernel_rfl) (by simp) ?_
  refine AllReadyH.cons rfl (fun K hK => ?_) AllReadyH.nil
  go_simp
  have O2 := O1d.out.below b2
  refine (CC.out (some ⟨g1, 0, none⟩) c1 w2 (SC1.out.below b2) (Rd.of_own O2) O2.cap.1 (by have h := O2.cap.2; unfold maxLen at h; omega)).mono ?_
  rintro e3 w3 ⟨A3, c3, rfl, o3, b3⟩
  have b3' := b2.trans (b3.mono b2.size)
  refine hK.out _ _ (KS.out _ b3') (fun hHeld3 => ?_)
  clear hK K hHeld2
  have O3 := (O2.below b3).base_le (show w.heap.size ≤ W.heap.size from bL.out.size)
  have B3 := B1d.out.trans (b3'.mono B1d.out.size)
  refine wpAnyH_ready (rs := [9]) (by kernel_rfl) (by simp) ?_
  refine AllReadyH.cons rfl (fun K hK => ?_) AllReadyH.nil
  have hS3 : Reads w3 w3.heap.size 1 A3 (plain.length + 16) (U8 S) := by
    have h := Rd.of_own o3
    unfold Rd at h
    rw [SL.out] at h
    exact h
  refine step_appV rfl (.tmp 48) (.tmp 56) 23 5 1 1 (.int .u8 0) rfl Tryd.underlying23 info_u8 rfl (by decide) w.heap.size (c := c1) (d := c3) (n := H.length) (m := plain.length + 16) (A := some ⟨g1, 0, none⟩) (B := A3) rfl rfl O3 hS3 (U8_oneCell _) (by have h := HL.out; unfold maxLen; omega) (by have h := HL.out; omega) B3.size ?_
  intro A4 c4 w4 o4 g4 b4 _
  have B4 : Below w.heap.size w w4 := B3.trans b4
  have Q4 : Blk w4 w.heap.size 34 QL.toArray := ((show Blk w1.drew w.heap.size _ _ from Q1.out).below b3' Q1.out.lt).grown g4 (by have h := G1.out; simp only [Value.ownBlock]; intro h2; have := bL.out.size; have := b1s.out; injection h2; omega)
  have O4 := own_appV o4 SL.out.symm
  rw [HX.out] at O4
  rw [show H.length + (plain.length + 16) = (F :: G).length by rw [XL.out, HL.out]; omega]
  obtain ⟨g4', hA4, hg4, hl4⟩ := O4.form (by simp)
  subst hA4
  refine hK.out _ _ ⟨(KR.out w4 _ (by rw [← HQL.out]; exact Q4)).1, Q4.range⟩ (fun hHeld4 => ?_)
  clear hK K hHeld3
  simp only [List.getElem_toArray, List.getElem_cons_succ, List.getElem_cons_zero, Act.put, List.setIfInBounds_toArray, List.set_cons_succ, List.set_cons_zero]
  refine wpAnyH_take (i := 10) (oi := ⟨_, _, _, _, _, _⟩) (v := (.slice (some ⟨g4', 0, none⟩) (F :: G).length c4)) rfl (by kernel_rfl) (by kernel_rfl) (by kernel_rfl) (fun _ _ _ h => h) (Or.inl ⟨by rfl, fun w _ => rfl⟩) hHeld4 ?_
  simp only [Act.put, List.setIfInBounds_toArray, List.set_cons_zero, List.set_cons_succ]
  refine wpAnyH_done (by kernel_rfl) ?_ _
  have R4 := Lib.hid (show w4.rangeAt w.heap.size 44 MK from (KR.out w4 _ (by rw [← HQL.out]; exact Q4)).2.2)
  have CMx := Lib.hid (CM.out (some ⟨g4', 0, none⟩) c4 w4 (Rd.of_own O4) O4.cap.1 (by have h := O4.cap.2; unfold maxLen at h; omega))
  have OO4 := Lib.hid O4
  have BB4 := Lib.hid B4
  have GG4 := Lib.hid (show w.heap.size ≤ g4' ∧ g4' < w4.heap.size from ⟨hg4, hl4⟩)
  have CAP := Lib.hid (show (F :: G).length ≤ c4 from O4.cap.1)
  clear O4 B4 Q4 o4 g4 b4 hS3 B3 O3 b3 b3' o3 O2 b2 B1d SC1 O1d KS G1 b1s Q1 B1 O1 hHeld4 hg4 hl4 CN CC CM bH bQ
  go_wp2_with (first
    | refine wpList_load_mid rfl 22 (.tmp 60) rfl w.heap.size 44 rfl MK _ R4.out hu32 rfl hiM.out ?_
    | (go_at_call 26; refine CMx.out.mono ?_; rintro r w5 ⟨rfl, b5⟩
       have O5 := Lib.hid (OO4.out.below b5)
       have B5 := Lib.hid (BB4.out.trans (b5.mono BB4.out.size))
       have G5 := Lib.hid (show g4' < w5.heap.size from Nat.lt_of_lt_of_le GG4.out.2 b5.size)
       clear b5)
    | (refine wpList_store_row rfl 59 (.tmp 15) (.tmp 62) rfl w5.heap.size MA rfl rfl 59 Z (Blk.new w5 _ _) hi5.out (by rw [SMA.out, ZS.out]) AMA.out ?_
       have M6 := Lib.hid (Blk.row (Blk.new w5 59 Z) MA)
       have b6 := Lib.hid (below_setRow ((Below.refl w5.heap.size w5).alloc (Nat.le_refl _) (.cells Z 59)) (Nat.le_refl _) MA)
       have O6 := Lib.hid (O5.out.below b6.out)
       have B6 := Lib.hid (B5.out.trans (b6.out.mono B5.out.size))
       generalize (w5.alloc (.cells Z 59)).setRow w5.heap.size MA = w6 at M6 O6 B6 b6 ⊢))
  obtain ⟨gM, hgM⟩ : ∃ g, g = w5.heap.size := ⟨_, rfl⟩
  rw [← hgM] at M6 G5 ⊢
  have HGM := Lib.hid (show g4' < gM from G5.out)
  clear hgM b6 O5 B5 G5 OO4 BB4 CMx R4
  have cF : w6.cell? ⟨g4', 0, none⟩ = some (.int .u8 F) := by
    have h := (Rd.of_own O6.out).cell (j := 0) (x := F) rfl
    simpa using h
  have cFd : w6.drew.cell? ⟨g4', 0, none⟩ = some (.int .u8 F) := cF
  refine wp_region_held_drew (S := fun w' => w'.rangeAt gM 0 MA.toList) (by kernel_rfl) (show Blk w6.drew gM _ _ from M6.out).range (fun hHeld => ?_)
  refine wpAnyH_take (i := 0) (oi := ⟨_, _, _, _, _, _⟩) (v := (.slice (some ⟨g4', 0, none⟩) (F :: G).length c4)) rfl (by kernel_rfl) (by kernel_rfl) (by kernel_rfl) (fun _ _ _ h => h) (Or.inl ⟨by rfl, fun w _ => rfl⟩) hHeld ?_
  simp only [Act.put, List.setIfInBounds_toArray, List.set_cons_zero, List.set_cons_succ]
  refine wpAnyH_take (i := 1) (oi := ⟨_, _, _, _, _, _⟩) (v := (.slice (some ⟨g4', 0, none⟩) (F :: G).length c4)) rfl (by kernel_rfl) (by kernel_rfl) (by kernel_rfl) (fun _ _ _ h => h) (Or.inl ⟨by rfl, fun w _ => rfl⟩) hHeld ?_
  simp only [Act.put, List.setIfInBounds_toArray, List.set_cons_zero, List.set_cons_succ]
  refine wpAnyH_take (i := 2) (oi := ⟨_, _, _, _, _, _⟩) (v := (.pointer (some ⟨g4', 0, none⟩))) rfl (by kernel_rfl) (by kernel_rfl) (by kernel_rfl) (fun _ _ _ h => h) (Or.inl ⟨by rfl, fun w' hS => by go_simp⟩) hHeld ?_
  simp only [Act.put, List.setIfInBounds_toArray, List.set_cons_zero, List.set_cons_succ]
  refine wpAnyH_take (i := 4) (oi := ⟨_, _, _, _, _, _⟩) rfl (by kernel_rfl) (by kernel_rfl) (by kernel_rfl) (fun _ _ _ h => h) (yieldsIf_load_mid (by rfl) 59 (.tmp 15) rfl gM 0 rfl MA.toList _ (fun w h => h) hu5 rfl hi5L.out) hHeld ?_
  simp only [Act.put, List.setIfInBounds_toArray, List.set_cons_zero, List.set_cons_succ]
  refine wpAnyH_ready (rs := [3]) (by kernel_rfl) (by simp) ?_
  refine AllReadyH.cons rfl (fun K hK => ?_) AllReadyH.nil
  go_simp
  refine hK.out _ _ hHeld (fun _ => ?_)
  clear hK K
  refine wpAnyH_ready (rs := [5]) (by kernel_rfl) (by simp) ?_
  refine AllReadyH.cons rfl (fun K hK => ?_) AllReadyH.nil
  go_simp
  refine (CF.out w6.drew).mono ?_
  rintro e7 w7 ⟨rfl, hw7⟩
  have b7 : Below w6.heap.size w6.drew w7 := by rw [hw7]; exact (Below.refl w6.heap.size w6.drew).alloc (Nat.le_refl _) _
  have M7 : Blk w7 gM 59 MA := (show Blk w6.drew gM _ _ from M6.out).below b7 M6.out.lt
  have O7 : Own w7 w.heap.size (some ⟨g4', 0, none⟩) c4 (F :: G) := (show Own w6.drew _ _ _ _ from O6.out).below b7
  have c7 : w7.cell? ⟨g4', 0, none⟩ = some (.int .u8 F) := by
    have h := (Rd.of_own O7).cell (j := 0) (x := F) rfl
    simpa using h
  have B7 : Below w.heap.size w w7 := B6.out.drew.trans (b7.mono B6.out.size)
  clear hw7
  refine hK.out _ _ M7.range (fun hHeld7 => ?_)
  clear hK K hHeld
  refine wpAnyH_take (i := 6) (oi := ⟨_, _, _, _, _, _⟩) (v := (.pointer (some ⟨g4', 0, none⟩))) rfl (by kernel_rfl) (by kernel_rfl) (by kernel_rfl) (fun _ _ _ h => h) (Or.inl ⟨by rfl, fun w' hS => by go_simp⟩) hHeld7 ?_
  simp only [Act.put, List.setIfInBounds_toArray, List.set_cons_zero, List.set_cons_succ]
  have f7 := O7.frozen 0
  have O8 := O7.store 0 F2 (by simp)
  rw [List.set_cons_zero] at O8
  refine wpAnyH_ready (rs := [7]) (by kernel_rfl) (by simp) ?_
  refine AllReadyH.cons rfl (fun K hK => ?_) AllReadyH.nil
  go_simp
  have B8 : Below w.heap.size w (w7.setCell ⟨g4', 0, none⟩ (.int .u8 F2)) := B7.setCell (p := ⟨g4', 0, none⟩) GG4.out.1 _
  have M8 : Blk (w7.setCell ⟨g4', 0, none⟩ (.int .u8 F2)) gM 59 MA := M7.far (p := ⟨g4', 0, none⟩) (by have := HGM.out; show gM ≠ g4'; omega) _
  have cF8 : (w7.setCell ⟨g4', 0, none⟩ (.int .u8 F2)).cell? ⟨g4', 0, none⟩ = some (.int .u8 F2) := by
    have h := (Rd.of_own O8).cell (j := 0) (x := F2) rfl
    simpa using h
  generalize w7.setCell ⟨g4', 0, none⟩ (.int .u8 F2) = w8 at B8 M8 cF8 O8 ⊢
  refine hK.out _ _ M8.range (fun hHeld8 => ?_)
  clear hK K hHeld7 f7 c7 O7 M7 B7 b7 cF cFd
  refine wpAnyH_done (by kernel_rfl) ?_ _
  have O8h := Lib.hid O8
  have B8h := Lib.hid B8
  have M8h := Lib.hid M8
  have GL1 := Lib.hid (show G.length + 1 = (F2 :: G).length from rfl)
  have sl := slice_glh g4' (G.length + 1) c4 T (T + s) (by omega) (by have h := GL.out; omega) (by have h := CAP.out; simpa using h)
  rw [show T + s - T = s by omega, show ((T + s : Nat) : Int) = (T : Int) + (s : Int) by omega] at sl
  have SLI := Lib.hid sl
  have hw4 := Lib.hid (show IntKind.i64.wrap ((T : Int) + (s : Int)) = (T : Int) + (s : Int) from IntWalk.i64_in _ (by have h := HTl.out; omega))
  clear O8 B8 M8 cF8 hHeld8 sl
  go_upto_region 1 with fail
  refine wp_region_held_drew (S := fun w' => w'.rangeAt gM 0 MA.toList) (by kernel_rfl) (show Blk w8.drew gM _ _ from M8h.out).range (fun hHeld => ?_)
  refine wpAnyH_take (i := 0) (oi := ⟨_, _, _, _, _, _⟩) (v := (.slice (some ⟨g4', 0, none⟩) (G.length + 1) c4)) rfl (by kernel_rfl) (by kernel_rfl) (by kernel_rfl) (fun _ _ _ h => h) (Or.inl ⟨by rfl, fun w _ => rfl⟩) hHeld ?_
  simp only [Act.put, List.setIfInBounds_toArray, List.set_cons_zero, List.set_cons_succ]
  refine wpAnyH_take (i := 1) (oi := ⟨_, _, _, _, _, _⟩) (v := (.int .i64 (T : Int))) rfl (by kernel_rfl) (by kernel_rfl) (by kernel_rfl) (fun _ _ _ h => h) (Or.inl ⟨by rfl, fun w _ => rfl⟩) hHeld ?_
  simp only [Act.put, List.setIfInBounds_toArray, List.set_cons_zero, List.set_cons_succ]
  refine wpAnyH_take (i := 2) (oi := ⟨_, _, _, _, _, _⟩) (v := (.int .i64 (T : Int))) rfl (by kernel_rfl) (by kernel_rfl) (by kernel_rfl) (fun _ _ _ h => h) (Or.inl ⟨by rfl, fun w _ => rfl⟩) hHeld ?_
  simp only [Act.put, List.setIfInBounds_toArray, List.set_cons_zero, List.set_cons_succ]
  refine wpAnyH_take (i := 3) (oi := ⟨_, _, _, _, _, _⟩) (v := (.int .i64 (s : Int))) rfl (by kernel_rfl) (by kernel_rfl) (by kernel_rfl) (fun _ _ _ h => h) (Or.inl ⟨by rfl, fun w _ => rfl⟩) hHeld ?_
  simp only [Act.put, List.setIfInBounds_toArray, List.set_cons_zero, List.set_cons_succ]
  refine wpAnyH_take (i := 4) (oi := ⟨_, _, _, _, _, _⟩) (v := (.int .i64 ((T : Int) + (s : Int)))) rfl (by kernel_rfl) (by kernel_rfl) (by kernel_rfl) (fun _ _ _ h => h) (Or.inl ⟨by rfl, fun w' hS => by go_simp; exact hw4.out⟩) hHeld ?_
  simp only [Act.put, List.setIfInBounds_toArray, List.set_cons_zero, List.set_cons_succ]
  refine wpAnyH_take (i := 5) (oi := ⟨_, _, _, _, _, _⟩) rfl (by kernel_rfl) (by kernel_rfl) (by kernel_rfl) (fun _ _ _ h => h) (yields_slice (r := .slice (some ⟨g4', T, none⟩) s (c4 - T)) (by rfl) 23 (.tmp 70) (some (.tmp 71)) (some (.tmp 74)) none rfl (fun w => SLI.out w)) hHeld ?_
  simp only [Act.put, List.setIfInBounds_toArray, List.set_cons_zero, List.set_cons_succ]
  refine wpAnyH_take (i := 6) (oi := ⟨_, _, _, _, _, _⟩) rfl (by kernel_rfl) (by kernel_rfl) (by kernel_rfl) (fun _ _ _ h => h) (yieldsIf_load_mid (by rfl) 59 (.tmp 15) rfl gM 0 rfl MA.toList _ (fun w h => h) hu5 rfl hi5L.out) hHeld ?_
  simp only [Act.put, List.setIfInBounds_toArray, List.set_cons_zero, List.set_cons_succ]
  refine wpAnyH_ready (rs := [7]) (by kernel_rfl) (by simp) ?_
  refine AllReadyH.cons rfl (fun K hK => ?_) AllReadyH.nil
  go_simp
  refine (CX.out g4' c4 w.heap.size w8.drew O8h.out (by rw [← GL1.out]; have h := CAP.out; simpa using h)).mono ?_
  rintro e9 w9 ⟨rfl, O9, g9⟩
  have M9 : Blk w9 gM 59 MA := (show Blk w8.drew gM _ _ from M8h.out).grown g9 (by have := HGM.out; intro h; injection h; omega)
  have B9 : Below w.heap.size w w9 := grown_below B8h.out.drew g9 B8h.out.size GG4.out.1
  refine hK.out _ _ M9.range (fun _ => ?_)
  clear hK K hHeld
  refine wpAnyH_done (by kernel_rfl) ?_ _
  have O9h := Lib.hid O9
  have B9h := Lib.hid B9
  have eP : G.length + 1 = P.length := by rw [GL.out, PL.out]
  have EP := Lib.hid eP
  clear O9 B9 M9 g9 O8h B8h M8h eP
  go_wp2_with fail
  go_ret2
  exact ⟨some ⟨g4', 0, none⟩, c4, by rw [← EP.out]; rfl, O9h.out, B9h.out⟩
end Go.Proofs.YtjibbegdieiknaaDoor

/-
  parcel.unmask of what Close made.
-/
namespace Go.Proofs.YtjibbegdieiknaaDoor
open Go.RowKit
set_option maxRecDepth 100000
set_option linter.unusedVariables false
set_option linter.unusedSimpArgs false

theorem sealL_length (lg : Bool) (lv : Int) (ph : Bool) (a b : List Int) (pn : Int) (s : Nat) (key iv plain : List Int) : (sealL lg lv ph a b pn s key iv plain).length = plain.length + 16 := by rw [sealL, closeL_length]
theorem sealL_bytes {plain : List Int} (h : Bytes plain) (lg : Bool) (lv : Int) (ph : Bool) (a b : List Int) (pn : Int) (s : Nat) (key iv : List Int) : Bytes (sealL lg lv ph a b pn s key iv plain) := by
  rw [sealL, closeL]; exact Bytes.append (encE_bytes h) (sealT_bytes _ _ _ _)
theorem closeP_length (lg : Bool) (lv : Int) (ph : Bool) (a b : List Int) (pn : Int) (s : Nat) (key iv mask plain : List Int) : (closeP lg lv ph a b pn s key iv mask plain).length = atL lg lv a b s plain.length + s + (plain.length + 16) := by
  rw [closeP, pkt_length, be_length, sealL_length, atL]
theorem atL_le {lg : Bool} {lv : Int} {ph : Bool} {a b : List Int} {s n : Nat} (hr : rightB lg lv ph a b = true) : atL lg lv a b s n ≤ 100 ∧ 1 ≤ atL lg lv a b s n := by
  refine ⟨?_, by rw [atL]; omega⟩
  rw [atL, midS]
  rcases right_cases hr with ⟨rfl, hlv, h1, h2, rfl⟩ | ⟨rfl, rfl, h1, rfl⟩
  · simp only [if_true, List.length_append, wenc_length _ _ (show 1 ≤ 2 by omega)]
    have : ((if lv = 0 then [0] else []) : List Int).length ≤ 1 := by split <;> simp
    simp; omega
  · simp only [Bool.false_eq_true, if_false]; omega
theorem mF_range {f m : Int} (hf : 0 ≤ f ∧ f < 256) (hm : 0 ≤ m ∧ m < 256) : 0 ≤ mF f m ∧ mF f m < 256 := by
  unfold mF
  refine xor8 hf ?_
  obtain ⟨x, rfl⟩ := Int.eq_ofNat_of_zero_le hm.1
  split
  · have h := u8_and_nat x 31 (by omega) (by omega)
    rw [show ((31 : Nat) : Int) = 31 from rfl] at h
    rw [h]
    have := Nat.and_le_left (n := x) (m := 31)
    omega
  · have h := u8_and_nat x 15 (by omega) (by omega)
    rw [show ((15 : Nat) : Int) = 15 from rfl] at h
    rw [h]
    have := Nat.and_le_left (n := x) (m := 15)
    omega

theorem unmask_pkt (key iv mask a b plain rest : List Int) (lg : Bool) (lv : Int) (ph : Bool) (pn : Int) (s : Nat) (A : Option Addr) (c : Nat) (w : World) (q : List Int) (hq : q = closeP lg lv ph a b pn s key iv mask plain ++ rest)
    (hsl : Sl w A c q) (hm : mask.length = 32) (hmb : Bytes mask) (hab : Bytes a) (hbb : Bytes b) (hpn : 0 ≤ pn) (hs : 1 ≤ s ∧ s ≤ 4) (hpb : Bytes plain) (hpl : plain.length ≤ 1000) (h4 : 4 ≤ s + plain.length)
    (hr : rightB lg lv ph a b = true) (hrest : lg = false → rest = []) (hrb : Bytes rest) (hrl : rest.length ≤ 2000) :
    Calls Tryd.prog 29 #[.slice A q.length c, .agg (IV .u8 mask).toArray] w fun r w' => ∃ A1 c1 A2 c2 A3 c3 A4 c4 A5 c5,
      r = .returned (.tuple #[.agg (bareV lg lv ph A1 a.length c1 A2 b.length c2 A3 (headL lg lv ph a b pn s plain.length).length c3 (pn % 256 ^ s) s A4 (plain.length + 16) c4 A5 rest.length c5), .int .i64 0]) ∧
      Own w' w.heap.size A1 c1 a ∧ Own w' w.heap.size A2 c2 b ∧ Own w' w.heap.size A3 c3 (headL lg lv ph a b pn s plain.length) ∧ Sl w' A4 c4 (sealL lg lv ph a b pn s key iv plain) ∧ Sl w' A5 c5 rest ∧ Below w.heap.size w w' := by
  have hPl := closeP_length lg lv ph a b pn s key iv mask plain
  have hat := atL_le (s := s) (n := plain.length) hr
  have hSl := sealL_length lg lv ph a b pn s key iv plain
  have hSb := sealL_bytes hpb lg lv ph a b pn s key iv
  have hHl := headL_length lg lv ph a b pn s plain.length
  obtain ⟨S, hS⟩ : ∃ S, S = sealL lg lv ph a b pn s key iv plain := ⟨_, rfl⟩
  obtain ⟨M, hM⟩ : ∃ M, M = maskP lg lv ph a b pn s key iv mask plain := ⟨_, rfl⟩
  have hMb : Bytes M := by rw [hM]; exact maskL_bytes _ _
  have hMk := getD_byte hMb 0
  have ez : (s : Int) + ((plain.length : Int) + 16) = (s : Int) + (S.length : Int) := by rw [hS, hSl]; omega
  obtain ⟨R, hR⟩ : ∃ R, R = midS lg lv a b ((s : Int) + ((plain.length : Int) + 16)) := ⟨_, rfl⟩
  have hT : atL lg lv a b s plain.length = 1 + R.length := by rw [atL, hR]
  have hq' : q = pkt (firS lg lv ph s) R (be pn s) S M ++ rest := by rw [hq, closeP, hR, hS, hM]
  have hH : headL lg lv ph a b pn s plain.length = firS lg lv ph s :: (R ++ be pn s) := by rw [headL, hR]
  have hRr : R = midS lg lv a b ((s : Int) + (S.length : Int)) := by rw [hR, ez]
  obtain ⟨r1, r2, r3, r4, r5, r6, r7⟩ := pkt_read lg lv ph a b s (be pn s) S M rest hr hs (be_length _ _) (by rw [hS, hSl]; omega) (by rw [hS, hSl]; omega) hMb hrest q (by rw [hq', hRr])
  rw [← hRr, ← hT] at r2
  have hql : q.length = atL lg lv a b s plain.length + s + (plain.length + 16) + rest.length := by rw [hq, List.length_append, hPl]
  have hcut : q.length - rest.length = (closeP lg lv ph a b pn s key iv mask plain).length := by rw [hql, hPl]; omega
  rw [hcut] at r3
  obtain ⟨_, _, f3, f4, f5, _, f7, f8⟩ := fir_facts lg lv ph s (M.getD 0 0) hs hMk (fun h => by
    rcases right_cases hr with ⟨_, h1, _⟩ | ⟨h1, _⟩
    · exact h1
    · rw [h] at h1; cases h1) (fun h => by
    rcases right_cases hr with ⟨_, _, _, _, h1⟩ | ⟨h1, _⟩
    · exact h1
    · rw [h] at h1; cases h1)
  have hqb : Bytes q := by
    have hHb := headL_bytes (pn := pn) (n := plain.length) hr hab hbb hs hpl
    rw [hH] at hHb
    rw [hq', pkt]
    refine Bytes.append (fun x hx => ?_) hrb
    rcases List.mem_cons.1 hx with rfl | hx
    · exact mF_range ⟨f7, f8⟩ hMk
    · rcases List.mem_append.1 hx with hx | hx
      · rcases List.mem_append.1 hx with hx | hx
        · exact hHb x (by simp [hx])
        · exact xorK_bytes (be_bytesP pn s) _ hMb _ x hx
      · rw [hS] at hx; exact hSb x hx
  have hsmp : M = maskL mask ((q.drop (atL lg lv a b s plain.length + 4)).take 16) := by
    have h := pkt_sample (firS lg lv ph s) R (be pn s) S M rest (by rw [be_length]; omega) (by rw [be_length, hS, hSl]; omega)
    rw [← hq', ← hT, ← hH] at h
    rw [h, hM, maskP, hS]
  have hD : headL lg lv ph a b pn s plain.length = xorK ((q.take (atL lg lv a b s plain.length + s)).set 0 (firS lg lv ph s)) (atL lg lv a b s plain.length) M s := by
    have h1 := pkt_take (firS lg lv ph s) R (be pn s) S M rest
    have h2 := pkt_back (firS lg lv ph s) R (be pn s) M (be_bytesP pn s) hMb
    rw [be_length, ← hT, ← hq'] at h1
    rw [be_length, ← hT, ← h1, ← hH] at h2
    exact h2.symm
  have hph : ph = (!lg && (bits .and .u8 (firS lg lv ph s) 4 != 0)) := by
    cases lg
    · rw [f5 rfl]; cases ph <;> rfl
    · rcases right_cases hr with ⟨_, _, _, _, h1⟩ | ⟨h1, _⟩
      · rw [h1]; rfl
      · cases h1
  have hU := unmask_ok mask q A c (atL lg lv a b s plain.length) (closeP lg lv ph a b pn s key iv mask plain).length s lg lv a b w hsl hqb (by omega) hm hmb r1 r2 r3 r4 r5 r6 r7 (by rw [hPl]; omega) (by rw [hql, hPl]; omega) hat.2
    (mF (firS lg lv ph s) (M.getD 0 0)) (R ++ xorK (be pn s) 0 M (be pn s).length ++ S ++ rest) (by rw [hq', pkt]; simp) M hsmp (firS lg lv ph s) f3.symm ⟨f7, f8⟩ hs f4 ph hph (headL lg lv ph a b pn s plain.length) hD
  have hnum : numB ((headL lg lv ph a b pn s plain.length).drop (atL lg lv a b s plain.length)) = pn % 256 ^ s := by
    rw [hH, hT, show firS lg lv ph s :: (R ++ be pn s) = (firS lg lv ph s :: R) ++ be pn s from rfl, List.drop_left' (by rw [List.length_cons]; omega), numB_be pn s hs hpn]
  have hc1 : (q.take (closeP lg lv ph a b pn s key iv mask plain).length).drop (atL lg lv a b s plain.length + s) = S := by
    have h := pkt_drop (firS lg lv ph s) R (be pn s) S M []
    rw [be_length, ← hT, List.append_nil, List.append_nil] at h
    rw [hq, List.take_left' rfl, ← h, closeP, hR, hS, hM]
  have hc2 : q.drop (closeP lg lv ph a b pn s key iv mask plain).length = rest := by rw [hq, List.drop_left' rfl]
  rw [hnum, hc1, hc2, show (closeP lg lv ph a b pn s key iv mask plain).length - (atL lg lv a b s plain.length + s) = plain.length + 16 by rw [hPl]; omega, show q.length - (closeP lg lv ph a b pn s key iv mask plain).length = rest.length by rw [hql, hPl]; omega, hS] at hU
  exact hU
end Go.Proofs.YtjibbegdieiknaaDoor
