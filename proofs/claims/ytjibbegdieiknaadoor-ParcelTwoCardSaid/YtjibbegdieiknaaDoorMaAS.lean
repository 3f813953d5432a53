/-
  ring.Label.
-/
import Derived.Test.YtjibbegdieiknaaDoorMaAR
import Derived.Lib.AppendStr
import Derived.Test.YtjibbegdieiknaaDoorMaAN
namespace Go.Proofs.YtjibbegdieiknaaDoor
set_option maxRecDepth 100000
open Go.RowKit
set_option linter.unusedVariables false

/-- A string's bytes. -/
def sb (s : ByteArray) : List Int := s.data.toList.map fun b => (b.toNat : Int)
theorem U8_sb (s : ByteArray) : U8 (sb s) = Go.Lib.strCells s := by
  unfold U8 sb Go.Lib.strCells
  rw [List.map_map]
  rfl
theorem sb_length (s : ByteArray) : (sb s).length = s.size := by
  unfold sb
  rw [List.length_map, Array.length_toList]
  rfl
theorem sb_bytes (s : ByteArray) : Bytes (sb s) := by
  intro x hx
  unfold sb at hx
  obtain ⟨b, _, rfl⟩ := List.mem_map.1 hx
  have := b.toNat_lt
  omega
theorem wpList_appS {ops : Array Oper} {rest : List Oper} {o : Oper} {a : Act} {w : World} {Q : Exit → Act → World → Prop} (hgd : o.guard = none) (sl x : Operand)
    (ho : o.op = .call { callee := .builtin .append, args := #[sl, x], argTypes := #[23, 9] })
    (base : Nat) {c : Nat} {A : Option Addr} {l X : List Int} {k : Nat} (s : ByteArray) (hX : X = l ++ sb s) (hk : k = l.length) (hs : a.eval sl = .slice A k c) (hx : a.eval x = .string s) (hown : Own w base A c l) (h1 : 0 < l.length)
    (hlen : X.length ≤ 70368744177664) (hbase : base ≤ w.heap.size)
    (h : ∀ A' c' w', Own w' base A' c' X → w.grownBy w' (Value.slice A k c).ownBlock → Below base w w' →
      wpList Tryd.prog ops Q rest (a.put o.dst (.slice A' X.length c')) w') : wpList Tryd.prog ops Q (o :: rest) a w := by
  subst hX; subst hk
  have hl : (l ++ sb s).length = l.length + s.size := by rw [List.length_append, sb_length]
  rw [hl] at hlen h
  obtain ⟨i0, hi0, hz0, hz1, hz2⟩ := info_parts info_u8
  refine wpList_plain hgd fun K hK => ?_
  obtain ⟨v', w', hrun, h2, h3, h4⟩ := Go.Lib.run_append_own_string (P := Tryd.prog) w base 23 9 o.type 5 i0 Tryd.underlying23 Tryd.underlying9 hi0 hz0 hz1 hz2 _ _ _ hown s (by unfold maxLen; omega) (by omega) hbase
  rcases h2.2 with ⟨rfl, h0⟩ | ⟨g, cap, cur, rfl, _⟩
  · exact absurd h0 (by omega)
  · unfold Oper.wp execOp
    simp only [ho, resolve, invoke, builtin, Sem.run_bind, Sem.run_pure, Result.andThen_ok, List.map_toArray, List.map_cons, List.map_nil, hs, hx, hrun]
    refine hK _ _ (h _ _ w' ?_ h3 ((Below.refl _ _).grown h3 hbase hown.row_ge))
    unfold Own
    rw [U8_append, U8_sb, hl]
    exact h2

theorem wpList_appXs {ops : Array Oper} {rest : List Oper} {o : Oper} {a : Act} {w : World} {Q : Exit → Act → World → Prop} (hgd : o.guard = none) (s x : Operand)
    (ho : o.op = .call { callee := .builtin .append, args := #[s, x], argTypes := #[23, 23] })
    (base : Nat) {c d : Nat} {A B : Option Addr} {l news : List Int} (X : List Int) (hX : X = l ++ news) (hs : a.eval s = .slice A l.length c) (hx : a.eval x = .slice B news.length d) (hown : Own w base A c l) (hr : Rd w B news)
    (hlen : l.length + news.length ≤ 70368744177664) (hbase : base ≤ w.heap.size)
    (h : ∀ A' c' w', Own w' base A' c' X → w.grownBy w' (Value.slice A l.length c).ownBlock → Below base w w' → wpList Tryd.prog ops Q rest (a.put o.dst (.slice A' X.length c')) w') : wpList Tryd.prog ops Q (o :: rest) a w := by
  subst hX
  refine wpList_app hgd s x ho base hs hx hown hr hlen hbase ?_
  intro A' c' w' h1 h2 h3
  have := h A' c' w' h1 h2 h3
  rwa [List.length_append] at this
theorem own_lit3 (w : World) (x y z : Int) {base : Nat} (hb : base ≤ w.heap.size) : Own (w.alloc (.cells #[.int .u8 x, .int .u8 y, .int .u8 z] 5)) base (some ⟨w.heap.size, 0, none⟩) 3 [x, y, z] :=
  Own.new (l := [x, y, z]) (Blk.new w _ _) hb (by simp [maxLen])
theorem rd_litS (w : World) (x : Int) : Rd (w.alloc (.cells #[.int .u8 x] 5)) (some ⟨w.heap.size, 0, none⟩) [x] :=
  Rd.of_own (base := w.heap.size) (c := 1) (Own.new (l := [x]) (Blk.new w _ _) (Nat.le_refl _) (by simp [maxLen]))
theorem sb_tls : [(116 : Int), 108, 115, 49, 51, 32] = sb ⟨#[116, 108, 115, 49, 51, 32]⟩ := by decide

/-- The text that Label hands to Expand. -/
def labelInfo (l ctx : List Int) (n : Nat) : List Int := ((([(n : Int) / 256, (n : Int) % 256, 6 + (l.length : Int)] ++ [116, 108, 115, 49, 51, 32]) ++ l) ++ [(ctx.length : Int)]) ++ ctx

set_option maxHeartbeats 400000 in
theorem Label_err (A B : Option Addr) (s : ByteArray) (ln lm c d : Nat) (n e : Int) (w : World) (he : lenE n = e) (h0 : e ≠ 0) :
    Calls Tryd.prog 35 #[.slice A ln c, .string s, .slice B lm d, .int .i64 n] w fun r w' => r = .returned (.tuple #[.slice none 0 0, .int .i64 e]) ∧ w = w' := by
  have HE := Lib.hid he
  clear he
  go_enter Tryd.func35, Tryd.ntmps35
  go_wp2_with fail
  refine (lengthError_any n w).mono ?_
  rintro r w1 ⟨rfl, rfl⟩
  rw [HE.out]
  go_wp2_with fail
  go_ret2
  exact ⟨rfl, rfl⟩

set_option maxHeartbeats 400000 in
theorem Label_long (A B : Option Addr) (s : ByteArray) (ln lm c d : Nat) (n : Int) (w : World) (he : lenE n = 0) (h0 : 249 < s.size ∨ 255 < lm) :
    Calls Tryd.prog 35 #[.slice A ln c, .string s, .slice B lm d, .int .i64 n] w fun r w' => r = .returned (.tuple #[.slice none 0 0, .int .i64 3]) ∧ w = w' := by
  have HE := Lib.hid he
  clear he
  by_cases h1 : 249 < s.size
  · have h2 : (249 : Int) < (s.size : Int) := by omega
    clear h0
    go_enter Tryd.func35, Tryd.ntmps35
    go_wp2_with fail
    refine (lengthError_any n w).mono ?_
    rintro r w1 ⟨rfl, rfl⟩
    rw [HE.out]
    go_wp2_with fail
    go_ret2
    exact ⟨rfl, rfl⟩
  · have h2 : ¬ (249 : Int) < (s.size : Int) := by omega
    have h3 : (255 : Int) < (lm : Int) := by omega
    clear h0
    go_enter Tryd.func35, Tryd.ntmps35
    go_wp2_with fail
    refine (lengthError_any n w).mono ?_
    rintro r w1 ⟨rfl, rfl⟩
    rw [HE.out]
    go_wp2_with fail
    go_ret2
    exact ⟨rfl, rfl⟩

set_option maxHeartbeats 1600000 in
theorem Label_any (A : Option Addr) (c : Nat) (key : List Int) (s : ByteArray) (B : Option Addr) (d : Nat) (ctx : List Int) (n : Nat) (w : World) (hs : Sl w A c key) (hb : Bytes key) (hi : Sl w B d ctx) (hib : Bytes ctx) (hn : n ≤ 8160) (hsl : s.size ≤ 249) (hcl : ctx.length ≤ 255) (hS : STab w) (hK : KTab w) (hkl : key.length ≤ 576460752303423488) :
    Calls Tryd.prog 35 #[.slice A key.length c, .string s, .slice B ctx.length d, .int .i64 n] w fun r w' => ∃ A' c', r = .returned (.tuple #[.slice A' n c', .int .i64 0]) ∧ Own w' w.heap.size A' c' (hkdf key (labelInfo (sb s) ctx n) n) ∧ Below w.heap.size w w' := by
  have he : lenE n = 0 := by unfold lenE; rw [if_neg (by omega), if_neg (by omega)]
  obtain ⟨P0, hP0⟩ : ∃ P0, P0 = [(n : Int) / 256, (n : Int) % 256, 6 + (s.size : Int)] := ⟨_, rfl⟩
  obtain ⟨P1, hP1⟩ : ∃ P1, P1 = P0 ++ [116, 108, 115, 49, 51, 32] := ⟨_, rfl⟩
  obtain ⟨P2, hP2⟩ : ∃ P2, P2 = P1 ++ sb s := ⟨_, rfl⟩
  obtain ⟨P3, hP3⟩ : ∃ P3, P3 = P2 ++ [(ctx.length : Int)] := ⟨_, rfl⟩
  obtain ⟨P4, hP4⟩ : ∃ P4, P4 = P3 ++ ctx := ⟨_, rfl⟩
  have e4 : labelInfo (sb s) ctx n = P4 := by rw [hP4, hP3, hP2, hP1, hP0, labelInfo, sb_length]
  rw [e4]
  have l0 : P0.length = 3 := by rw [hP0]; rfl
  have l1 : P1.length = 9 := by rw [hP1, List.length_append, l0]; rfl
  have l2 : P2.length = 9 + s.size := by rw [hP2, List.length_append, l1, sb_length]
  have l3 : P3.length = 10 + s.size := by rw [hP3, List.length_append, l2, List.length_singleton]; omega
  have l4 : P4.length = 10 + s.size + ctx.length := by rw [hP4, List.length_append, l3]
  have b4 : Bytes P4 := by
    intro x hx
    rw [hP4, hP3, hP2, hP1, hP0] at hx
    simp only [List.mem_append, List.mem_cons, List.not_mem_nil, or_false] at hx
    rcases hx with ((((hx | hx | hx) | hx | hx | hx | hx | hx | hx) | hx) | hx) | hx
    all_goals first | omega | exact sb_bytes s x (by assumption) | exact hib x (by assumption)
  have HE := Lib.hid he
  have HS := Lib.hid hs
  have HI := Lib.hid hi
  have HST := Lib.hid hS
  have HK := Lib.hid hK
  have L1 := Lib.hid l1
  have L2 := Lib.hid l2
  have L3 := Lib.hid l3
  have L4 := Lib.hid l4
  have B4 := Lib.hid b4
  have E1 := Lib.hid (show P1 = [(n : Int) / 256, (n : Int) % 256, 6 + (s.size : Int)] ++ sb ⟨#[116, 108, 115, 49, 51, 32]⟩ by rw [hP1, hP0, ← sb_tls])
  have E2 := Lib.hid hP2
  have E3 := Lib.hid hP3
  have E4 := Lib.hid hP4
  have O0 := Lib.hid (own_lit3 w ((n : Int) / 256) ((n : Int) % 256) (6 + (s.size : Int)) (Nat.le_refl _))
  have Z0 := Lib.hid (show P1.length ≤ 70368744177664 by omega)
  have B0 := Lib.hid (((Below.refl w.heap.size w).alloc (Nat.le_refl _) (.cells #[.int .u8 ((n : Int) / 256), .int .u8 ((n : Int) % 256), .int .u8 (6 + (s.size : Int))] 5)))
  have h1 : ¬ (249 : Int) < (s.size : Int) := by omega
  have h2 : ¬ (255 : Int) < (ctx.length : Int) := by omega
  clear he hs hi hS hK e4 l0 l1 l2 l3 l4 b4 hP4 hP3 hP2 hP1 hP0 P0
  go_enter Tryd.func35, Tryd.ntmps35
  go_wp2_with fail
  refine (lengthError_any n w).mono ?_
  rintro r w1 ⟨rfl, rfl⟩
  rw [HE.out]
  go_wp2_with (first
    | (refine wpList_appS (c := 3) (A := some ⟨w.heap.size, 0, none⟩) rfl (.tmp 35) (.const (.string ⟨#[116, 108, 115, 49, 51, 32]⟩)) rfl w.heap.size (l := [(n : Int) / 256, (n : Int) % 256, 6 + (s.size : Int)]) (X := P1) (k := 3) ⟨#[116, 108, 115, 49, 51, 32]⟩ E1.out rfl rfl rfl O0.out (by simp) Z0.out B0.out.size ?_
       intro A1 c1 w1 o1 g1 b1
       have O1 := Lib.hid o1
       have BL1 := Lib.hid (B0.out.trans b1)
       clear g1 b1 o1)
    | (refine wpList_appS rfl (.tmp 37) (.tmp 38) rfl w.heap.size (l := P1) (X := P2) (k := P1.length) s E2.out rfl rfl rfl O1.out (by rw [L1.out]; omega) (by rw [L2.out]; omega) BL1.out.size ?_
       intro A2 c2 w2 o2 g2 b2
       have O2 := Lib.hid o2
       have BL2 := Lib.hid (BL1.out.trans b2)
       clear g2 b2 o2 O1 BL1)
    | (refine wpList_appXs rfl (.tmp 40) (.tmp 44) rfl w.heap.size (l := P2) (news := [(ctx.length : Int)]) (d := 1) P3 E3.out rfl rfl (O2.out.alloc _) (rd_litS w2 _) (by rw [L2.out, List.length_singleton]; omega) (Nat.le_trans BL2.out.size (by simp)) ?_
       intro A3 c3 w3 o3 g3 b3
       have O3 := Lib.hid o3
       have BL3 := Lib.hid ((BL2.out.alloc BL2.out.size _).trans b3)
       clear g3 b3 o3 O2 BL2)
    | (refine wpList_appXs rfl (.tmp 46) (.tmp 47) rfl w.heap.size (l := P3) (news := ctx) (d := d) P4 E4.out rfl rfl O3.out (HI.out.below BL3.out).rd (by rw [L3.out]; omega) BL3.out.size ?_
       intro A4 c4 w4 o4 g4 b4
       have O4 := Lib.hid o4
       have BL4 := Lib.hid (BL3.out.trans b4)
       clear g4 b4 o4 O3 BL3))
  refine (Expand_any A c key A4 c4 P4 n w4 (HS.out.below BL4.out) hb (Sl.of_own O4.out) B4.out hn (HST.out.below BL4.out) (HK.out.below BL4.out) hkl (by rw [L4.out]; omega)).mono ?_
  rintro r w5 ⟨A5, c5, rfl, o5, b5⟩
  have O5 := Lib.hid (o5.base_le BL4.out.size)
  have BL5 := Lib.hid (BL4.out.trans (b5.mono BL4.out.size))
  clear o5 b5
  go_wp2_with fail
  go_ret2
  exact ⟨A5, c5, rfl, O5.out, BL5.out⟩
set_option maxHeartbeats 800000 in
theorem Extract_any (A : Option Addr) (c : Nat) (salt : List Int) (B : Option Addr) (d : Nat) (key : List Int) (w : World) (hs : Sl w A c salt) (hb : Bytes salt) (hi : Sl w B d key) (hib : Bytes key) (hS : STab w) (hK : KTab w) (hsl : salt.length ≤ 576460752303423488) (hkl : key.length ≤ 576460752303423000) :
    Calls Tryd.prog 34 #[.slice A salt.length c, .slice B key.length d] w fun r w' => r = .returned (.agg (IV .u8 (hmac salt key)).toArray) ∧ Below w.heap.size w w' := by
  obtain ⟨OUT, hOUT⟩ : ∃ OUT, OUT = hmac salt key := ⟨_, rfl⟩
  obtain ⟨Z32, hZ32⟩ : ∃ Z, Z = (IV .u8 (List.replicate 32 0)).toArray := ⟨_, rfl⟩
  have hz32 : ∀ w, (zeroValue 22).run Tryd.prog w = .ok (.agg Z32) w := by rw [hZ32]; exact zero32
  have HZS32 := Lib.hid (show Z32.size = 32 by rw [hZ32]; rfl)
  have I32 := Lib.hid (show (Tryd.prog.info? 22).map (·.size) = some 32 by kernel_rfl)
  have SOUT := Lib.hid (show (IV .u8 OUT).toArray.size = 32 by rw [hOUT]; simp [IV, hmac_length])
  have AOUT := Lib.hid (show (IV .u8 OUT).toArray.all (·.oneCell') = true by simp [IV, Value.oneCell'])
  rw [← hOUT]
  have B0 := Lib.hid (show Below w.heap.size w (w.alloc (.cells Z32 22)) from (Below.refl _ _).alloc (Nat.le_refl _) _)
  have CM : Calls Tryd.prog 48 #[.slice A salt.length c, .slice (some ⟨w.heap.size + 1, 0, none⟩) 1 1] ((w.alloc (.cells Z32 22)).alloc (.cells #[.slice B key.length d] 23)) fun r w' => r = .returned (.agg (IV .u8 OUT).toArray) ∧ Below (w.heap.size + 1) (w.alloc (.cells Z32 22)) w' := by
    have hsz : (w.alloc (.cells Z32 22)).heap.size = w.heap.size + 1 := by simp
    have b1 : Below (w.heap.size + 1) (w.alloc (.cells Z32 22)) ((w.alloc (.cells Z32 22)).alloc (.cells #[.slice B key.length d] 23)) := (Below.refl _ _).alloc (by rw [hsz]; exact Nat.le_refl _) _
    have b2 := B0.out.trans (b1.mono (by omega))
    have hn := RdBs.new (w := w.alloc (.cells Z32 22)) (xs := [(B, d, key)]) 23 (by
      intro x hx
      simp only [List.mem_cons, List.not_mem_nil, or_false] at hx
      subst hx
      exact ⟨hi.below B0.out, hib⟩)
    rw [hsz] at hn
    have h := Mac_any A c salt (some ⟨w.heap.size + 1, 0, none⟩) 1 _ _ (hs.below b2) hb hn (by simp) (by decide) (hS.below b2) (hK.below b2) hsl (by rw [flat_one]; exact hkl)
    rw [flat_one, ← hOUT] at h
    exact h.mono fun r w' ⟨e, hb⟩ => ⟨e, b1.trans (hb.mono (by simp))⟩
  have C := Lib.hid CM
  clear CM hs hi hS hK hOUT hZ32
  go_enter Tryd.func34, Tryd.ntmps34
  go_wp2_with fail
  refine C.out.mono ?_
  rintro e w3 ⟨rfl, b3⟩
  have R3 := Lib.hid (show Blk w3 w.heap.size 22 Z32 from (Blk.new w _ Z32).below b3 (by simp))
  have BL3 := Lib.hid (B0.out.trans (b3.mono (by simp)))
  clear b3 C
  go_wp2_with (refine wpList_store_row rfl 22 (.tmp 4) (.tmp 8) rfl w.heap.size (IV .u8 OUT).toArray rfl rfl 22 Z32 R3.out (by rw [SOUT.out]; exact I32.out) (by rw [SOUT.out, HZS32.out]) AOUT.out ?_
               have G4 := Lib.hid (Blk.row R3.out (IV .u8 OUT).toArray)
               have BL4 := Lib.hid (below_setRow BL3.out (Nat.le_refl _) (IV .u8 OUT).toArray)
               generalize w3.setRow w.heap.size (IV .u8 OUT).toArray = w4 at G4 BL4 ⊢)
  refine bodyPost_ret (v := .agg (IV .u8 OUT).toArray) (results_cell_row rfl _ _ w.heap.size 22 _ (0, 0) _ rfl G4.out Tryd.underlying22 rfl (by rw [SOUT.out]; exact I32.out)) rfl ⟨rfl, BL4.out⟩
end Go.Proofs.YtjibbegdieiknaaDoor

/-
  parcel.nonce, parcel.maskOf, parcel.label.
-/
namespace Go.Proofs.YtjibbegdieiknaaDoor
open Go.RowKit
set_option maxRecDepth 100000
set_option linter.unusedVariables false
set_option linter.unusedSimpArgs false

def nonceP (iv : List Int) (pn : Int) : List Int := xorK iv 4 (0 :: be pn 8) 8
theorem be_bytesP (pn : Int) : ∀ k, Bytes (be pn k)
  | 0 => by intro x hx; cases hx
  | k + 1 => by
    intro x hx
    rw [be, List.mem_cons] at hx
    rcases hx with rfl | hx
    · omega
    · exact be_bytesP pn k x hx
theorem nonceP_length (iv : List Int) (pn : Int) : (nonceP iv pn).length = iv.length := xorK_length _ _ _ _
theorem nonceP_bytes {iv : List Int} (h : Bytes iv) (pn : Int) : Bytes (nonceP iv pn) := xorK_bytes h _ (by
  intro x hx
  rcases List.mem_cons.1 hx with rfl | hx
  · decide
  · exact be_bytesP pn 8 x hx) _
/-- Keys by value. -/
def KV (key iv mask : List Int) : Value := .agg (IV .u8 (key ++ iv ++ mask)).toArray
theorem keys_range {w : World} {g : Nat} {t : TypeId} {key iv mask : List Int} (hk : key.length = 32) (hi : iv.length = 12) (b : Blk w g t (IV .u8 (key ++ iv ++ mask)).toArray) :
    w.rangeAt g 0 (IV .u8 key) ∧ w.rangeAt g 32 (IV .u8 iv) ∧ w.rangeAt g 44 (IV .u8 mask) := by
  refine ⟨fun j v hv => ?_, fun j v hv => ?_, fun j v hv => ?_⟩
  all_goals
    have hj : j < _ := (List.getElem?_eq_some_iff.1 hv).1
    rw [IV_length] at hj
    rw [b.cell]
    simp only [List.getElem?_toArray, IV_append]
  · rw [Nat.zero_add, List.append_assoc, List.getElem?_append_left (by rw [IV_length]; exact hj)]; exact hv
  · rw [List.append_assoc, List.getElem?_append_right (by rw [IV_length]; omega), List.getElem?_append_left (by rw [IV_length, IV_length]; omega), ← hv]
    congr 1; rw [IV_length]; omega
  · rw [List.getElem?_append_right (by rw [List.length_append, IV_length, IV_length]; omega), ← hv]
    congr 1; rw [List.length_append, IV_length, IV_length]; omega
theorem pow_shr (pn : Int) (k : Nat) (hk : k < 8) : pn / 256 ^ (8 - 1 - k) % 256 = pn / 2 ^ (56 - 8 * k) % 256 := by
  rw [show (256 : Int) = 2 ^ 8 from rfl, ← Int.pow_mul, show 8 * (8 - 1 - k) = 56 - 8 * k by omega]
theorem Blk.far_row {w : World} {g g2 : Nat} {t : TypeId} {cs : Array Value} (h : Blk w g t cs) (hne : g ≠ g2) (cs' : Array Value) : Blk (w.setRow g2 cs') g t cs :=
  (setRow_other w g2 g cs' hne).trans h
theorem zero12 (w : World) : (zeroValue 32).run Tryd.prog w = .ok (.agg (IV .u8 (List.replicate 12 0)).toArray) w := rfl
set_option maxHeartbeats 1600000 in
theorem nonce_any (key iv mask : List Int) (pn : Int) (w : World) (hk : key.length = 32) (hi : iv.length = 12) (hm : mask.length = 32) (hib : Bytes iv) (hpn : 0 ≤ pn ∧ pn < 18446744073709551616) :
    Calls Tryd.prog 25 #[KV key iv mask, .int .u64 pn] w fun r w' => r = .returned (.agg (IV .u8 (nonceP iv pn)).toArray) ∧ Below w.heap.size w w' := by
  obtain ⟨K, hK⟩ : ∃ K, K = (IV .u8 (key ++ iv ++ mask)).toArray := ⟨_, rfl⟩
  have bK := (Blk.new w 34 K)
  rw [hK] at bK
  have RV := Lib.hid (keys_range hk hi bK).2.1
  rw [← hK] at RV
  obtain ⟨OA, hOA⟩ : ∃ OA, OA = (IV .u8 (nonceP iv pn)).toArray := ⟨_, rfl⟩
  rw [KV, ← hK, ← hOA]
  have SOA := Lib.hid (show OA.size = 12 by rw [hOA]; simp [IV, nonceP_length, hi])
  have AO := Lib.hid (show OA.all (·.oneCell') = true by rw [hOA]; simp [IV, Value.oneCell'])
  have HOA := Lib.hid hOA
  obtain ⟨Z, hZ⟩ : ∃ Z, Z = (IV .u8 (List.replicate 12 0)).toArray := ⟨_, rfl⟩
  have hz12 : ∀ w, (zeroValue 32).run Tryd.prog w = .ok (.agg Z) w := by rw [hZ]; exact zero12
  have ZS := Lib.hid (show Z.size = 12 by rw [hZ]; rfl)
  have I12 := Lib.hid (show (Tryd.prog.info? 32).map (·.size) = some 12 by kernel_rfl)
  obtain ⟨IA, hIA⟩ : ∃ IA, IA = IV .u8 iv := ⟨_, rfl⟩
  have SI := Lib.hid (show IA.length = 12 by rw [hIA, IV_length]; exact hi)
  have AI := Lib.hid (show IA.toArray.all (·.oneCell') = true by rw [hIA]; simp [IV, Value.oneCell'])
  rw [← hIA] at RV
  have HIA := Lib.hid hIA
  have HPN := Lib.hid hpn
  have HIB := Lib.hid hib
  have HI := Lib.hid hi
  clear bK hK hZ hIA hOA hk hi hm hib hpn
  go_enter Tryd.func25, Tryd.ntmps25
  have hi12 : (Tryd.prog.info? 32).map (·.size) = some IA.length := by rw [SI.out]; exact I12.out
  have R1 := Lib.hid (show ((w.alloc (.cells K 34)).alloc (.cells Z 32)).rangeAt w.heap.size 32 IA from World.rangeAt_alloc RV.out _)
  have hz1 : ((w.alloc (.cells K 34)).alloc (.cells Z 32)).heap.size = w.heap.size + 1 + 1 := by simp
  have hz2 : (w.alloc (.cells K 34)).heap.size = w.heap.size + 1 := by simp
  have hz3 : (((w.alloc (.cells K 34)).alloc (.cells Z 32)).alloc (.cells Z 32)).heap.size = w.heap.size + 1 + 1 + 1 := by simp
  have BZ := Lib.hid (show Blk (((w.alloc (.cells K 34)).alloc (.cells Z 32)).alloc (.cells Z 32)) (w.heap.size + 1 + 1) 32 Z by have h := Blk.new ((w.alloc (.cells K 34)).alloc (.cells Z 32)) 32 Z; rw [hz1] at h; exact h)
  have BR := Lib.hid (show Blk (((w.alloc (.cells K 34)).alloc (.cells Z 32)).alloc (.cells Z 32)) (w.heap.size + 1) 32 Z from (blk_second w _ _ Z).alloc _)
  have BL := Lib.hid (show Below w.heap.size w (((w.alloc (.cells K 34)).alloc (.cells Z 32)).alloc (.cells Z 32)) from (((Below.refl _ _).alloc (Nat.le_refl _) _).alloc (by omega) _).alloc (by omega) _)
  clear hz1 hz2
  go_wp2_with (first
    | refine wpList_load_mid rfl 32 (.tmp 7) rfl w.heap.size 32 rfl IA _ R1.out Tryd.underlying32 rfl hi12 ?_
    | (refine wpList_store_row rfl 32 (.tmp 5) (.tmp 8) rfl (w.heap.size + 1 + 1) IA.toArray rfl rfl 32 Z BZ.out (by simpa using hi12) (by rw [ZS.out]; exact SI.out.symm) AI.out ?_
       have T3 := Lib.hid (Blk.row BZ.out IA.toArray)
       have B3 := Lib.hid (below_setRow (g := w.heap.size + 1 + 1) BL.out (by omega) IA.toArray)
       have R3 := Lib.hid (BR.out.far_row (g2 := w.heap.size + 1 + 1) (by omega) IA.toArray)
       generalize (((w.alloc (.cells K 34)).alloc (.cells Z 32)).alloc (.cells Z 32)).setRow (w.heap.size + 1 + 1) IA.toArray = w3 at T3 B3 R3 ⊢))
  obtain ⟨g1, hg1⟩ : ∃ g, g = w.heap.size + 1 := ⟨_, rfl⟩
  rw [← hg1] at R3 T3 ⊢
  obtain ⟨g2, hg2⟩ : ∃ g, g = g1 + 1 := ⟨_, rfl⟩
  rw [← hg2] at T3 ⊢
  have HG := Lib.hid (show w.heap.size ≤ g1 ∧ w.heap.size ≤ g2 ∧ g1 ≠ g2 by omega)
  have T4 := Lib.hid (show Blk w3 g2 32 (IV .u8 (xorK iv 4 (0 :: be pn 8) 0)).toArray by rw [xorK_zero]; have h := T3.out; rw [HIA.out] at h; exact h)
  clear T3 BZ BR BL R1 hg1 hg2 hz3 hi12 RV AI
  go_loopw [9] (fun i wr => ∃ k : Nat, k ≤ 8 ∧ i = .int .i64 k ∧ Blk wr g2 32 (IV .u8 (xorK iv 4 (0 :: be pn 8) k)).toArray ∧ Blk wr g1 32 Z ∧ Below w.heap.size w wr) (fun i _ => 8 - (intOf i).toNat)
  case atStart => exact ⟨0, by omega, rfl, T4.out, R3.out, B3.out⟩
  case round =>
    obtain ⟨k, hk, rfl, b2, b1, bl⟩ := hrel
    clear T4 R3 B3
    by_cases hk8 : k < 8
    · obtain ⟨x, hx⟩ : ∃ x, iv[4 + k]? = some x := ⟨_, List.getElem?_eq_getElem (show 4 + k < iv.length by rw [HI.out]; omega)⟩
      have hy : (0 :: be pn 8).getD (1 + k) 0 = pn / 2 ^ (56 - 8 * k) % 256 := by
        rw [List.getD_eq_getElem?_getD, show 1 + k = k + 1 by omega, List.getElem?_cons_succ, be_at pn 8 k hk8, pow_shr pn k hk8]; rfl
      have cx := b2.cell_i (xorK_here iv 4 (0 :: be pn 8) k hx)
      have fx := b2.frozen (4 + k)
      have S2 := Lib.hid (b2.store_i (4 + k) (bits .xor .u8 x (pn / 2 ^ (56 - 8 * k) % 256)))
      rw [xorK_next iv 4 (0 :: be pn 8) k hx hy] at S2
      have B1 := Lib.hid b1
      have BW := Lib.hid bl
      have e8 : (56 - 8 * (k : Int)).toNat = 56 - 8 * k := by omega
      have h8 : 0 ≤ 56 - 8 * (k : Int) ∧ 56 - 8 * (k : Int) ≤ 56 := by omega
      clear b2 b1 bl hx hy
      go_wp2_with fail
      go_region
      go_wp2_with fail
      go_roundw
      case rel => exact ⟨k + 1, by omega, by go_num, S2.out, B1.out.far (p := ⟨g2, 4 + k, none⟩) (by have := HG.out; simp; omega) _, (BW.out.setCell (p := ⟨g2, 4 + k, none⟩) HG.out.2.1 _).drew⟩
      case measure => simp [intOf]; omega
    · obtain rfl : k = 8 := by omega
      rw [show (((8 : Nat) : Int)) = 8 from rfl]
      rw [show xorK iv 4 (0 :: be pn 8) 8 = nonceP iv pn from rfl] at b2
      rw [← HOA.out] at b2
      have B2 := Lib.hid b2
      have B1 := Lib.hid b1
      have BW := Lib.hid bl
      clear b2 b1 bl
      go_wp2_with (first
        | refine wpList_load_row rfl 32 (.tmp 5) rfl g2 rfl 32 OA (0, 0) _ B2.out Tryd.underlying32 rfl (by rw [SOA.out]; exact I12.out) ?_
        | refine wpList_store_row rfl 32 (.tmp 4) (.tmp 25) rfl g1 OA rfl rfl 32 Z B1.out (by rw [SOA.out]; exact I12.out) (by rw [SOA.out, ZS.out]) AO.out ?_)
      refine bodyPost_ret (v := .agg OA) (results_cell_row rfl _ _ g1 32 _ (0, 0) _ rfl (Blk.row B1.out _) Tryd.underlying32 rfl (by rw [SOA.out]; exact I12.out)) rfl ⟨rfl, ?_⟩
      exact below_setRow BW.out HG.out.1 _
end Go.Proofs.YtjibbegdieiknaaDoor

/-
  parcel.maskOf, parcel.label.
-/
namespace Go.Proofs.YtjibbegdieiknaaDoor
open Go.RowKit
set_option maxRecDepth 100000
set_option linter.unusedVariables false
set_option linter.unusedSimpArgs false

set_option maxHeartbeats 1600000 in
theorem maskOf_any (A : Option Addr) (c : Nat) (l : List Int) (n : Nat) (key : List Int) (w : World) (h : Rd w A l) (hb : Bytes l) (hn : n + 20 ≤ l.length) (hc : l.length ≤ c) (hcm : c ≤ 9223372036854775807) (hk : key.length = 32) (hkb : Bytes key) :
    Calls Tryd.prog 26 #[.slice A l.length c, .int .i64 (n : Int), .agg (IV .u8 key).toArray] w fun r w' => r = .returned (.agg (IV .u8 (maskL key ((l.drop (n + 4)).take 16))).toArray) ∧ Below w.heap.size w w' := by
  obtain ⟨A2, hS2, hR2, _⟩ := slice_from A c l (n + 4) .i64 (by omega) hc
  rw [show ((n + 4 : Nat) : Int) = (n : Int) + 4 by omega] at hS2
  obtain ⟨S, hS⟩ : ∃ S, S = (l.drop (n + 4)).take 16 := ⟨_, rfl⟩
  have hSl : S.length = 16 := by rw [hS]; simp; omega
  have hSb : Bytes S := by rw [hS]; exact (hb.drop _).take _
  have CM := Lib.hid (fun W => Mask_any key S W hk hkb hSl hSb)
  obtain ⟨OA, hOA⟩ : ∃ OA, OA = (IV .u8 (maskL key S)).toArray := ⟨_, rfl⟩
  have SOA := Lib.hid (show OA.size = 5 by rw [hOA]; simp [IV, maskL_length])
  have AO := Lib.hid (show OA.all (·.oneCell') = true by rw [hOA]; simp [IV, Value.oneCell'])
  obtain ⟨KL, hKL⟩ : ∃ KL, KL = IV .u8 key := ⟨_, rfl⟩
  obtain ⟨SL, hSL⟩ : ∃ SL, SL = IV .u8 S := ⟨_, rfl⟩
  rw [← hS, ← hKL, ← hOA]
  rw [← hKL, ← hSL, ← hOA] at CM
  have SK : KL.length = 32 := by rw [hKL, IV_length, hk]
  have SS : SL.length = 16 := by rw [hSL, IV_length, hSl]
  have I5 := Lib.hid (show (Tryd.prog.info? 59).map (·.size) = some 5 by kernel_rfl)
  have hu32 := Tryd.underlying22
  have hu16 := Tryd.underlying78
  have hi32 : (Tryd.prog.info? 22).map (·.size) = some KL.length := by rw [SK]; kernel_rfl
  have hi16 : (Tryd.prog.info? 78).map (·.size) = some SL.length := by rw [SS]; kernel_rfl
  have RD := hR2 w h
  obtain ⟨bD, oD, hA2, hbD⟩ := RD.some_ (by simp; omega)
  have SDR := Lib.hid (show w.rangeAt bD oD SL by
    rw [hA2] at RD
    intro j v hv
    rw [hSL] at hv
    obtain ⟨x, hx, rfl⟩ : ∃ x, S[j]? = some x ∧ .int .u8 x = v := by simpa [IV] using hv
    refine RD.cell ?_
    rw [hS, List.getElem?_take] at hx
    split at hx
    · exact hx
    · cases hx)
  have hdl : 16 ≤ (l.drop (n + 4)).length := by simp; omega
  obtain ⟨dl, hdle⟩ : ∃ d, d = (l.drop (n + 4)).length := ⟨_, rfl⟩
  rw [← hdle] at hS2 hdl
  have hArr : ∀ W : World, (Instr.arrayAt 78 (.slice A2 dl (c - (n + 4)))).run Tryd.prog W = .ok (.pointer (some ⟨bD, oD, none⟩)) W := fun W => by
    have h := run_arrayAt (P := Tryd.prog) (w := W) 78 5 16 A2 dl (c - (n + 4)) Tryd.underlying78 hdl
    rw [hA2] at h ⊢
    exact h
  obtain ⟨Z, hZ⟩ : ∃ Z, Z = (IV .u8 (List.replicate 5 0)).toArray := ⟨_, rfl⟩
  have hz5 : ∀ w, (zeroValue 59).run Tryd.prog w = .ok (.agg Z) w := by rw [hZ]; exact zero5
  have ZS := Lib.hid (show Z.size = 5 by rw [hZ]; rfl)
  have hnl : 0 ≤ (n : Int) + 4 ∧ (n : Int) + 4 ≤ 9223372036854775807 := by omega
  have HBD := Lib.hid hbD
  have hw4 := Lib.hid (show IntKind.i64.wrap ((n : Int) + 4) = (n : Int) + 4 from IntWalk.i64_in _ (by omega))
  clear hS hSl hSb hOA hKL hSL hk hkb h hb hA2 hbD RD hR2 hdle hZ hc hcm hn
  go_enter Tryd.func26, Tryd.ntmps26
  go_wp2_with fail
  obtain ⟨W, hW⟩ : ∃ W, W = (w.alloc (.cells KL.toArray 22)).alloc (.cells Z 59) := ⟨_, rfl⟩
  have bK := Lib.hid (show Blk W w.heap.size 22 KL.toArray by rw [hW]; exact (Blk.new w _ _).alloc _)
  have bR := Lib.hid (show Blk W (w.heap.size + 1) 59 Z by rw [hW]; exact blk_second w _ _ _)
  have bL := Lib.hid (show Below w.heap.size w W by rw [hW]; exact ((Below.refl _ _).alloc (Nat.le_refl _) _).alloc (by simp) _)
  show Code.wp _ _ _ _ ((w.alloc (.cells KL.toArray 22)).alloc (.cells Z 59))
  rw [← hW]
  obtain ⟨gR, hgR⟩ : ∃ g, g = w.heap.size + 1 := ⟨_, rfl⟩
  rw [← hgR] at bR ⊢
  have HG := Lib.hid hgR
  clear hW hgR
  have KS := Lib.hid (show ∀ w', Below W.heap.size W.drew w' → (w'.rangeAt w.heap.size 0 KL ∧ w'.rangeAt bD oD SL) from fun w' hb => by
    refine ⟨((show Blk W.drew w.heap.size _ _ from bK.out).below hb bK.out.lt).range, fun j v hv => ?_⟩
    have h1 := SDR.out j v hv
    have e1 : W.drew.cell? ⟨bD, oD + j, none⟩ = w.cell? ⟨bD, oD + j, none⟩ := bL.out.drew.cell (p := ⟨bD, oD + j, none⟩) HBD.out
    have e2 : w'.cell? ⟨bD, oD + j, none⟩ = W.drew.cell? ⟨bD, oD + j, none⟩ := hb.cell (p := ⟨bD, oD + j, none⟩) (by have h1 := HBD.out; have h2 := bL.out.size; show bD < W.heap.size; omega)
    rw [e2, e1, h1])
  refine wp_region_held_drew (S := fun w' => w'.rangeAt w.heap.size 0 KL ∧ w'.rangeAt bD oD SL) (by kernel_rfl) (KS.out _ (Below.refl _ _)) (fun hHeld => ?_)
  refine wpAnyH_take (i := 0) (oi := ⟨_, _, _, _, _, _⟩) rfl (by kernel_rfl) (by kernel_rfl) (by kernel_rfl) (fun _ _ _ h => h) (yieldsIf_load_mid (by rfl) 22 (.tmp 5) rfl w.heap.size 0 rfl KL _ (fun w h => h.1) hu32 rfl hi32) hHeld ?_
  simp only [Act.put, List.setIfInBounds_toArray, List.set_cons_zero, List.set_cons_succ]
  refine wpAnyH_take (i := 1) (oi := ⟨_, _, _, _, _, _⟩) (v := .slice A l.length c) rfl (by kernel_rfl) (by kernel_rfl) (by kernel_rfl) (fun _ _ _ h => h) (Or.inl ⟨by rfl, fun w _ => rfl⟩) hHeld ?_
  simp only [Act.put, List.setIfInBounds_toArray, List.set_cons_zero, List.set_cons_succ]
  refine wpAnyH_take (i := 2) (oi := ⟨_, _, _, _, _, _⟩) (v := .int .i64 (n : Int)) rfl (by kernel_rfl) (by kernel_rfl) (by kernel_rfl) (fun _ _ _ h => h) (Or.inl ⟨by rfl, fun w _ => rfl⟩) hHeld ?_
  simp only [Act.put, List.setIfInBounds_toArray, List.set_cons_zero, List.set_cons_succ]
  refine wpAnyH_take (i := 3) (oi := ⟨_, _, _, _, _, _⟩) (v := .int .i64 ((n : Int) + 4)) rfl (by kernel_rfl) (by kernel_rfl) (by kernel_rfl) (fun _ _ _ h => h) (Or.inl ⟨by rfl, fun w' hS => by go_simp; exact hw4.out⟩) hHeld ?_
  simp only [Act.put, List.setIfInBounds_toArray, List.set_cons_zero, List.set_cons_succ]
  refine wpAnyH_take (i := 4) (oi := ⟨_, _, _, _, _, _⟩) rfl (by kernel_rfl) (by kernel_rfl) (by kernel_rfl) (fun _ _ _ h => h) (yields_slice (r := .slice A2 dl (c - (n + 4))) (by rfl) 23 (.tmp 8) (some (.tmp 10)) none none rfl (fun w => hS2 w)) hHeld ?_
  simp only [Act.put, List.setIfInBounds_toArray, List.set_cons_zero, List.set_cons_succ]
  refine wpAnyH_take (i := 5) (oi := ⟨_, _, _, _, _, _⟩) rfl (by kernel_rfl) (by kernel_rfl) (by kernel_rfl) (fun _ _ _ h => h) (yields_arrayAt (r := .pointer (some ⟨bD, oD, none⟩)) (by rfl) 78 (.tmp 11) rfl (fun w => hArr w)) hHeld ?_
  simp only [Act.put, List.setIfInBounds_toArray, List.set_cons_zero, List.set_cons_succ]
  refine wpAnyH_take (i := 6) (oi := ⟨_, _, _, _, _, _⟩) rfl (by kernel_rfl) (by kernel_rfl) (by kernel_rfl) (fun _ _ _ h => h) (yieldsIf_load_mid (by rfl) 78 (.tmp 12) rfl bD oD rfl SL _ (fun w h => h.2) hu16 rfl hi16) hHeld ?_
  simp only [Act.put, List.setIfInBounds_toArray, List.set_cons_zero, List.set_cons_succ]
  refine wpAnyH_ready (rs := [7]) (by kernel_rfl) (by simp) ?_
  refine AllReadyH.cons rfl (fun K hK => ?_) AllReadyH.nil
  go_simp
  refine (CM.out W.drew).mono ?_
  rintro e w1 ⟨rfl, b1⟩
  have B1 := Lib.hid b1
  have hR1 : Blk w1 gR 59 Z := (show Blk W.drew gR _ _ from bR.out).below b1 bR.out.lt
  refine hK.out _ _ (KS.out _ b1) (fun hHeld1 => ?_)
  clear hK K b1
  refine wpAnyH_ready (rs := [8]) (by kernel_rfl) (by simp) ?_
  refine AllReadyH.cons rfl (fun K hK => ?_) AllReadyH.nil
  rw [if_pos (by rfl)]
  refine wp_store_mid 59 (.tmp 6) (.tmp 14) rfl gR 0 OA rfl rfl (Blk.there_ hR1 (by rw [SOA.out, ZS.out]; exact Nat.le_refl _)) (by rw [SOA.out]; exact I5.out) AO.out ?_
  have hg : w.heap.size ≤ gR := by have := HG.out; omega
  have hOl : OA.toList.length = Z.size := by rw [ZS.out, Array.length_toList]; exact SOA.out
  have B2 : Below w.heap.size w (w1.setCells gR 0 OA.toList) := below_setCells (bL.out.drew.trans (B1.out.mono bL.out.size)) hg (by have h1 := bL.out.size; have h2 := B1.out.size; exact Nat.le_trans h1 h2) _ _
  have R2 := hR1.setAll hOl
  rw [Array.toArray_toList] at R2
  have BB2 : Below W.heap.size W.drew (w1.setCells gR 0 OA.toList) ∨ True := .inr trivial
  refine hK.out _ _ (show (w1.setCells gR 0 OA.toList).rangeAt w.heap.size 0 KL ∧ (w1.setCells gR 0 OA.toList).rangeAt bD oD SL from ?_) (fun hHeld2 => ?_)
  · have k1 := KS.out _ B1.out
    exact ⟨World.rangeAt_setCells_apart k1.1 _ _ _ (.inl (by have := HG.out; omega)), World.rangeAt_setCells_apart k1.2 _ _ _ (.inl (by have := HBD.out; omega))⟩
  clear hK K
  refine wpAnyH_done (by kernel_rfl) ?_ _
  go_wp2_with fail
  refine bodyPost_ret (v := .agg OA) (results_cell_row rfl _ _ gR 59 _ (0, 0) _ rfl R2 Tryd.underlying59 rfl (by rw [SOA.out]; exact I5.out)) rfl ⟨rfl, ?_⟩
  exact B2

/-- What a label draws out of a secret. -/
def lab (secret : List Int) (name : ByteArray) (n : Nat) : List Int := hkdf secret (labelInfo (sb name) [] n) n
set_option maxHeartbeats 1600000 in
theorem label_any (secret : List Int) (s : ByteArray) (n : Nat) (w : World) (hk : secret.length = 32) (hkb : Bytes secret) (hn : n ≤ 8160) (hs : s.size ≤ 249) (hS : STab w) (hK : KTab w) :
    Calls Tryd.prog 22 #[.agg (IV .u8 secret).toArray, .string s, .int .i64 n] w fun r w' => ∃ A' c', r = .returned (.slice A' n c') ∧ Own w' w.heap.size A' c' (lab secret s n) ∧ Below w.heap.size w w' := by
  obtain ⟨SA, hSA⟩ : ∃ SA, SA = (IV .u8 secret).toArray := ⟨_, rfl⟩
  have b0 : Blk (w.alloc (.cells SA 22)) w.heap.size 22 (IV .u8 secret).toArray := by rw [hSA]; exact Blk.new _ _ _
  have bl : Below w.heap.size w (w.alloc (.cells SA 22)) := (Below.refl _ _).alloc (Nat.le_refl _) _
  have CL := Lib.hid (Label_any (some ⟨w.heap.size, 0, none⟩) 32 secret s none 0 [] n _ (b0.sl hk (Nat.le_refl _) (by omega)) hkb (Sl.none_ _) (by intro x hx; cases hx) hn hs (by simp) (hS.below bl) (hK.below bl) (by omega))
  rw [hk] at CL
  obtain ⟨O, hO⟩ : ∃ O, O = lab secret s n := ⟨_, rfl⟩
  rw [show hkdf secret (labelInfo (sb s) [] n) n = O from hO.symm] at CL
  rw [← hSA, ← hO]
  have BL := Lib.hid bl
  have e1 := slice_arr32z w.heap.size
  clear b0 bl hSA hO hk hkb
  go_enter Tryd.func22, Tryd.ntmps22
  go_wp2_with (go_at_call 35; refine CL.out.mono ?_; rintro e w1 ⟨A', c', rfl, o1, b1⟩)
  go_ret
  exact ⟨A', c', rfl, o1.base_le BL.out.size, BL.out.trans (b1.mono BL.out.size)⟩
end Go.Proofs.YtjibbegdieiknaaDoor

/-
  A struct of long arrays, built by value (parcel.Keys); a drawn region's condition, made stronger on the way.
-/
namespace Go.Proofs.YtjibbegdieiknaaDoor
open Go.RowKit
set_option maxRecDepth 100000
set_option linter.unusedVariables false
set_option linter.unusedSimpArgs false

/-- The condition of a drawn region may be made stronger on the way. -/
theorem wpAnyH_and {P : Program} {md : Region.Mode} {ops : Array Oper} {Q : Exit → Act → World → Prop} {S T : World → Prop} : ∀ (fuel : Nat) (listed : Array Bool) (a : Act) (w : World),
    wpAnyH P md ops Q (fun w => S w ∧ T w) fuel listed a w → wpAnyH P md ops Q S fuel listed a w
  | 0, _, _, _, h => h
  | fuel + 1, _, _, _, h => ⟨h.1, fun i hi => wpOp_mono (fun a' w' h' => ⟨h'.1.1, wpAnyH_and fuel _ a' w' h'.2⟩) (h.2 i hi)⟩

theorem fill_list (off : Nat) : ∀ (vs : List Value) (k : Nat) (cells : List Value), off + k + vs.length ≤ cells.length →
    (vs.zipIdx k).foldl (fun (cs : Array Value) x => cs.setIfInBounds (off + x.2) x.1) cells.toArray = (cells.take (off + k) ++ vs ++ cells.drop (off + k + vs.length)).toArray
  | [], k, cells, h => by simp
  | v :: vs, k, cells, h => by
    rw [List.length_cons] at h
    rw [List.zipIdx_cons, List.foldl_cons]
    show (vs.zipIdx (k + 1)).foldl _ (cells.toArray.setIfInBounds (off + k) v) = _
    rw [List.setIfInBounds_toArray, fill_list off vs (k + 1) (cells.set (off + k) v) (by rw [List.length_set]; omega)]
    congr 1
    have hlt : off + k < cells.length := by omega
    rw [show off + (k + 1) = off + k + 1 by omega, List.take_add_one, List.getElem?_set_self hlt, List.length_cons,
      show off + k + 1 + vs.length = off + k + (vs.length + 1) by omega, List.drop_set_of_lt (by omega), List.take_set_of_le (by omega)]
    simp
theorem fill_one (off : Nat) (vs cells : List Value) (h : off + vs.length ≤ cells.length) :
    vs.toArray.zipIdx.foldl (fun (cs : Array Value) (x : Value × Nat) => cs.setIfInBounds (off + x.2) x.1) cells.toArray = (cells.take off ++ vs ++ cells.drop (off + vs.length)).toArray := by
  rw [← Array.foldl_toList, Array.toList_zipIdx]
  exact fill_list off vs 0 cells (by omega)
theorem keys_zero : (Tryd.prog.info? 34).map (·.zero) = some (some (.agg (IV .u8 (List.replicate 76 0)).toArray)) := by kernel_rfl
theorem built_keys (K I M : List Value) (hk : K.length = 32) (hi : I.length = 12) (hm : M.length = 32) :
    Tryd.prog.built 34 [(0, .agg K.toArray), (1, .agg I.toArray), (2, .agg M.toArray)] = some (K ++ I ++ M).toArray := by
  have h0 := keys_zero
  obtain ⟨it, hit, hz⟩ : ∃ it, Tryd.prog.info? 34 = some it ∧ it.zero = some (.agg (IV .u8 (List.replicate 76 0)).toArray) := by
    cases h : Tryd.prog.info? 34 with
    | none => rw [h] at h0; cases h0
    | some it => rw [h] at h0; exact ⟨it, rfl, by simpa using h0⟩
  have hp : ((Tryd.prog.underlying 34).bind fun d => match d with | .struct fields => fields.toList.mapM (fun f => (Tryd.prog.info? f.type).map fun i => (f.offset, i.size)) | _ => none) = some [(0, 32), (32, 12), (44, 32)] := by kernel_rfl
  unfold Program.built
  rw [Tryd.underlying34] at hp ⊢
  simp only [Option.bind_some] at hp
  simp only [hit, hz, hp]
  obtain ⟨Z, hZ⟩ : ∃ Z, Z = IV .u8 (List.replicate 76 0) := ⟨_, rfl⟩
  have hZl : Z.length = 76 := by rw [hZ]; simp [IV]
  rw [← hZ]
  show Instr.fill _ Z.toArray _ = _
  have f1 := fill_one 0 K Z (by omega)
  have f2 := fill_one 32 I (K ++ Z.drop 32) (by simp; omega)
  have f3 := fill_one 44 M ((K ++ I) ++ Z.drop 44) (by simp; omega)
  have e1 : Z.take 0 ++ K ++ Z.drop (0 + K.length) = K ++ Z.drop 32 := by rw [hk]; simp
  have e2 : (K ++ Z.drop 32).take 32 ++ I ++ (K ++ Z.drop 32).drop (32 + I.length) = (K ++ I) ++ Z.drop 44 := by
    rw [List.take_left' hk, hi, List.drop_append, hk, List.drop_of_length_le (by omega), List.drop_drop]; simp
  have e3 : ((K ++ I) ++ Z.drop 44).take 44 ++ M ++ ((K ++ I) ++ Z.drop 44).drop (44 + M.length) = K ++ I ++ M := by
    rw [List.take_left' (by simp; omega), hm, List.drop_of_length_le (by simp; omega), List.append_nil]
  rw [e1] at f1; rw [e2] at f2; rw [e3] at f3
  unfold Instr.fill
  simp only [List.getElem?_toArray, List.getElem?_cons_zero, Value.cells, List.size_toArray]
  rw [if_neg (by simp; omega)]
  rw [f1]
  unfold Instr.fill
  simp only [List.getElem?_toArray, List.getElem?_cons_zero, List.getElem?_cons_succ, Value.cells, List.size_toArray]
  rw [if_neg (by simp; omega)]
  rw [f2]
  unfold Instr.fill
  simp only [List.getElem?_toArray, List.getElem?_cons_zero, List.getElem?_cons_succ, Value.cells, List.size_toArray]
  rw [if_neg (by simp; omega)]
  rw [f3]
  rfl
theorem yields_build {P : Program} {ops : Array Oper} {S : World → Prop} {op : Oper} {a : Act} {cs : Array Value} (hw : Region.wanted op (yielded ops a.tmps) = true) (t : TypeId) (parts : Array (Nat × Operand)) (ho : op.op = .build t parts)
    (h : P.built t (parts.map fun (i, x) => (i, a.eval x)).toList = some cs) : YieldsIf P ops S op (.agg cs) a :=
  .inl ⟨hw, fun w _ => by
    unfold execOp
    simp only [ho, Sem.run_bind, run_build w t _ cs h, Result.andThen_ok]
    rfl⟩
end Go.Proofs.YtjibbegdieiknaaDoor
