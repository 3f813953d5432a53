import Derived.Test.YtfpgnaeiiponmaaDoorShaP
import Derived.Deep.RegionHeld3
import Derived.Deep.AppendLies
namespace Go.Proofs.YtfpgnaeiiponmaaDoor
open Go.RowKit
set_option linter.unusedVariables false

theorem info_bs : (Tryd.prog.info? 22).map (fun i => (i.zero, i.size, i.bytes)) = some (some (.slice none 0 0), 1, 24) := by kernel_rfl
/-- A piece of the slice (Ap, cp) that reads as p: wherever p lies, its bytes lie. -/
structure Sub (Ap : Option Addr) (p : List Int) (x : Option Addr × Nat × List Int) : Prop where
  le : x.2.2.length ≤ x.2.1
  max : x.2.1 ≤ 9223372036854775807
  nil : x.1 = none → x.2.1 = 0
  rd : ∀ W, Rd W Ap p → Rd W x.1 x.2.2
  by_ : Bytes x.2.2
theorem Sub.sl {Ap : Option Addr} {p : List Int} {x : Option Addr × Nat × List Int} (h : Sub Ap p x) {W : World} (hw : Rd W Ap p) : Sl W x.1 x.2.1 x.2.2 := ⟨h.rd W hw, h.le, h.max, h.nil⟩
theorem OwnV.rdbs {w : World} {base c : Nat} {A : Option Addr} {xs : List (Option Addr × Nat × List Int)} {T : TypeId} (h : OwnV w base T 1 A c xs.length (xs.map BV)) {Ap : Option Addr} {p : List Int} (hp : Rd w Ap p) (hs : ∀ x ∈ xs, Sub Ap p x) : RdBs w A xs :=
  ⟨h.reads, fun x hx => ⟨(hs x hx).sl hp, (hs x hx).by_⟩⟩

theorem Blk.reads1 {w : World} {g : Nat} {T : TypeId} {v : Value} (h : Blk w g T #[v]) : Reads w w.heap.size 1 (some ⟨g, 0, none⟩) 1 [v] :=
  ⟨rfl, fun _ => ⟨_, rfl, h.lt, fun j u hu => by
    rw [Addr.add_mid, Nat.zero_add, h.cell]
    simpa using hu⟩⟩
theorem OwnV.cap {w : World} {base c n : Nat} {A : Option Addr} {e : TypeId} {size : Nat} {xs : List Value} (h : OwnV w base e size A c n xs) : n ≤ c ∧ c ≤ 9223372036854775807 := by
  rcases h.2 with ⟨h2, h3⟩ | ⟨g, cap, cur, hv, hg, hh, h3, h4, _⟩
  · injection h2 with _ h4 h5; subst h5; omega
  · injection hv with _ _ h5; subst h5; unfold maxLen at h4; exact ⟨h3, h4⟩
/-- append of one piece. -/
theorem step_app1 {ops : Array Oper} {o : Oper} {a : Act} {w : World} {K : Act → World → Prop} {Q : Exit → Act → World → Prop} {E : Prop} (hgd : o.guard = none) (s x : Operand)
    (ho : o.op = .call { callee := .builtin .append, args := #[s, x], argTypes := #[23, 23] })
    (base : Nat) {c n : Nat} {A : Option Addr} {xs : List Value} (hs : a.eval s = .slice A n c) (hown : OwnV w base 22 1 A c n xs)
    (H : Nat) (v : Value) (hx : a.eval x = .slice (some ⟨H, 0, none⟩) 1 1) (hv : Blk w H 22 #[v]) (h1 : v.oneCell' = true) (hn : n ≤ 1000) (hbase : base ≤ w.heap.size)
    (h : ∀ A' c' w', OwnV w' base 22 1 A' c' (n + 1) (xs ++ [v]) → w.grownBy w' (Value.slice A n c).ownBlock → Below base w w' → K (a.put o.dst (.slice A' (n + 1) c')) w') :
    if Region.wanted o (yielded ops a.tmps) = true then Oper.wp Tryd.prog o a w K Q else E := by
  obtain ⟨i0, hi0, hz0, hz1, hz2⟩ := info_parts info_bs
  refine step_append_lies w hgd s x 23 ho base 22 i0 _ 1 24 Tryd.underlying23 hi0 hz0 hz1 hz2 rfl (by omega) _ n xs hs hown ⟨H, 0, none⟩ 1 1 [v] hx rfl (fun j u hj => ?_) (fun u hu => ?_) (by omega) (by unfold maxLen; omega) (by omega) hbase _ rfl (fun g cap w' h2 h3 h4 h5 => h _ _ w' h2 h3 ((Below.refl _ _).grown h3 hbase (OwnV.row_ge hown)))
  · rw [Addr.add_mid, Nat.zero_add, hv.cell]
    simpa using hj
  · simp only [List.mem_cons, List.not_mem_nil, or_false] at hu
    rw [hu]; exact h1

set_option maxRecDepth 100000 in
set_option maxHeartbeats 3200000 in
theorem parts_walk (A : Option Addr) (c : Nat) (p0 : List Int) (A2 : Option Addr) (c2 : Nat) (q : List Int) (w : World) (hT : STab w ∧ KTab w)
    (hr : Rd w A p0) (hb : Bytes p0) (hc : p0.length ≤ c) (hm : c ≤ 9223372036854775807) (hn : A = none → c = 0)
    (hr2 : Rd w A2 q) (hb2 : Bytes q) (hc2 : q.length ≤ c2) (hm2 : c2 ≤ 9223372036854775807) (hn2 : A2 = none → c2 = 0) :
    Calls Tryd.prog 7 #[.slice A p0.length c, .slice A2 q.length c2] w fun e w' => e = .returned (.bool true) ∧ Below w.heap.size w w' := by
  obtain ⟨hS, hK⟩ := hT
  obtain ⟨p, hp⟩ : ∃ p, p = p0.take (400 : Int).toNat := ⟨_, rfl⟩
  have hpl : p.length ≤ 400 := by rw [hp]; simp; omega
  have hpb : Bytes p := by rw [hp]; exact hb.take _
  have C0 := Lib.hid (fun W (bW : Below w.heap.size w W) => cut_any A c p0 400 W (hr.below bW) (by omega) hc (by decide) (by decide))
  rw [← hp] at C0
  obtain ⟨SP, hSP⟩ : ∃ SP, SP = sha p := ⟨_, rfl⟩
  obtain ⟨MP, hMP⟩ : ∃ MP, MP = hmac [107] p := ⟨_, rfl⟩
  have CSum : ∀ (W : World) (B : Option Addr) (d L : Nat) (ys : List (Option Addr × Nat × List Int)), RdBs W B ys → flat ys = p → ys.length = L → L ≤ d → d ≤ 9223372036854775807 → Below w.heap.size w W →
      Calls Tryd.prog 12 #[.slice B L d] W fun r w' => r = .returned (.agg (IV .u8 SP).toArray) ∧ Below W.heap.size W w' := by
    intro W B d L ys h1 h2 hL hd hm hW
    subst hL
    have h := Sum_any B d ys W h1 hd hm (hS.below hW) (hK.below hW) (by rw [h2]; omega)
    rw [h2, ← hSP] at h
    exact h
  have CMac : ∀ (W : World) (G : Option Addr) (B : Option Addr) (d L : Nat) (ys : List (Option Addr × Nat × List Int)), Sl W G 1 [107] → RdBs W B ys → flat ys = p → ys.length = L → L ≤ d → d ≤ 9223372036854775807 → Below w.heap.size w W →
      Calls Tryd.prog 13 #[.slice G 1 1, .slice B L d] W fun r w' => r = .returned (.agg (IV .u8 MP).toArray) ∧ Below W.heap.size W w' := by
    intro W G B d L ys hg h1 h2 hL hd hm hW
    subst hL
    have h := Mac_any G 1 [107] B d ys W hg (by intro x hx; simp only [List.mem_cons, List.not_mem_nil, or_false] at hx; omega) h1 hd hm (hS.below hW) (hK.below hW) (by decide) (by rw [h2]; omega)
    rw [h2, ← hMP] at h
    exact h
  have heq1 : ∀ W : World, (binOp .eql 29 (.agg (IV .u8 SP).toArray) (.agg (IV .u8 SP).toArray)).run Tryd.prog W = .ok (.bool true) W := run_eql32 SP (by rw [hSP]; exact sha_bytes _) (by rw [hSP]; exact sha_length _)
  have heq2 : ∀ W : World, (binOp .eql 29 (.agg (IV .u8 MP).toArray) (.agg (IV .u8 MP).toArray)).run Tryd.prog W = .ok (.bool true) W := run_eql32 MP (by rw [hMP]; exact hmac_bytes _ _) (by rw [hMP]; exact hmac_length _ _)
  have kc := fun (w : World) (C : Array Value) (n c g : Nat) (hg : g = w.heap.size) => Joins.run_convert_bytes_const_at (P := Tryd.prog) w 22 5 C n c g hg Tryd.underlying22 Tryd.underlying5
  have CSUM := Lib.hid CSum
  have CMAC := Lib.hid CMac
  have HEQ1 := Lib.hid heq1
  have HEQ2 := Lib.hid heq2
  have KC := Lib.hid kc
  clear CSum CMac heq1 heq2 kc hSP hMP
  have HS := Lib.hid hS
  have HK := Lib.hid hK
  have HPB := Lib.hid hpb
  have HR2 := Lib.hid hr2
  have HB2 := Lib.hid hb2
  clear hr hb hn hn2 hS hK hp hpb hr2 hb2
  go_enter Tryd.func7, Tryd.ntmps7
  go_wp2_with fail
  refine (awake_any w HS.out HK.out).mono ?_
  rintro e w1 ⟨rfl, b1⟩
  have B1 := Lib.hid b1
  clear b1
  go_wp2_with fail
  refine (C0.out w1 B1.out).mono ?_
  rintro e w2 ⟨Ap, cp, rfl, op, b2⟩
  have hcp := op.cap
  have sp := Sl.of_own op
  have hsub0 : Sub Ap p (Ap, cp, p) := ⟨sp.le, sp.max, sp.nil, fun _ h => h, HPB.out⟩
  have HSUB0 := Lib.hid hsub0
  have OP := Lib.hid (op.base_le B1.out.size)
  have B2 := Lib.hid (B1.out.trans (b2.mono B1.out.size))
  obtain ⟨hcp1, hcp2⟩ := hcp
  clear op b2 sp hsub0 C0
  go_wp2_with fail
  go_loopw [17, 5, 6] (fun i ps rs wr => ∃ (k : Nat) (A5 : Option Addr) (c5 : Nat) (xs : List (Option Addr × Nat × List Int)) (A6 : Option Addr) (c6 : Nat) (r : List Int), k ≤ q.length ∧ k ≤ 20 ∧ i = .int .i64 k ∧ ps = .slice A5 xs.length c5 ∧ xs.length = k ∧ OwnV wr w.heap.size 22 1 A5 c5 xs.length (xs.map BV) ∧ rs = .slice A6 r.length c6 ∧ (∀ x ∈ xs, Sub Ap p x) ∧ Sub Ap p (A6, c6, r) ∧ flat xs ++ r = p ∧ Own wr w.heap.size Ap cp p ∧ Below w.heap.size w wr) (fun i _ _ _ => q.length - (intOf i).toNat)
  case atStart => exact ⟨0, none, 0, [], Ap, cp, p, by omega, by omega, rfl, rfl, rfl, OwnV.nil _ _ _ _, rfl, fun _ h => (by cases h), HSUB0.out, by simp [flat], OP.out, B2.out⟩
  case round =>
    obtain ⟨k, A5, c5, xs, A6, c6, r, hk, hk20, rfl, rfl, hxl, hown, rfl, hsx, hsr, hfl, hop, bel⟩ := hrel
    by_cases hend : k < q.length ∧ k < 20
    · obtain ⟨hkq, hk19⟩ := hend
      obtain ⟨b, off, rfl, hbw⟩ := HR2.out.some_ (by omega)
      obtain ⟨n0, hn0⟩ := Int.eq_ofNat_of_zero_le (HB2.out _ (List.getElem_mem hkq)).1
      have hn256 : n0 < 256 := by have := (HB2.out _ (List.getElem_mem hkq)).2; omega
      have hcell : wr.cell? ⟨b, off + k, none⟩ = some (.int .u8 (n0 : Int)) := by
        have h := (HR2.out.below bel).cell (List.getElem?_eq_getElem hkq)
        rw [hn0] at h
        exact h
      have hrc := hsr.le
      have hrm := hsr.max
      simp only at hrc hrm
      have hrp : r.length ≤ 400 := by have := congrArg List.length hfl; rw [List.length_append] at this; omega
      obtain ⟨n, hnd⟩ : ∃ n, n = min n0 r.length := ⟨_, rfl⟩
      have hnr : n ≤ r.length := by omega
      obtain ⟨A3, u1, u2, u3⟩ := slice_upto A6 c6 r n .i64 hnr hrc
      obtain ⟨A4, v1, v2, v3⟩ := slice_from A6 c6 r n .i64 hnr hrc
      obtain ⟨r1, hr1⟩ : ∃ r1, r1 = r.take n := ⟨_, rfl⟩
      obtain ⟨r2, hr2⟩ : ∃ r2, r2 = r.drop n := ⟨_, rfl⟩
      rw [← hr1] at u1 u2
      rw [← hr2] at v1 v2
      have hl1 : r1.length = n := by rw [hr1, List.length_take]; omega
      have hl2 : r2.length = r.length - n := by rw [hr2, List.length_drop]
      have hs1 : Sub Ap p (A3, c6, r1) := ⟨by simp only; omega, hsr.max, fun h => hsr.nil (u3 h), fun W hW => u2 W (hsr.rd W hW), by rw [hr1]; exact hsr.by_.take n⟩
      have hs2 : Sub Ap p (A4, c6 - n, r2) := ⟨by simp only; omega, by simp only; omega, fun h => by have := hsr.nil (v3 h); simp only at this ⊢; omega, fun W hW => v2 W (hsr.rd W hW), by rw [hr2]; exact hsr.by_.drop n⟩
      have hfl2 : flat (xs ++ [(A3, c6, r1)]) ++ r2 = p := by
        have e : flat (xs ++ [(A3, c6, r1)]) = flat xs ++ r1 := by simp [flat]
        rw [e, hr1, hr2, List.append_assoc, List.take_append_drop, hfl]
      have RELZ := Lib.hid (show ∀ (w' : World) (A' : Option Addr) (c' : Nat), OwnV w' w.heap.size 22 1 A' c' (xs.length + 1) (xs.map BV ++ [.slice A3 r1.length c6]) → Own w' w.heap.size Ap cp p → Below w.heap.size w w' →
          ∃ (k' : Nat) (A5 : Option Addr) (c5 : Nat) (xs' : List (Option Addr × Nat × List Int)) (A6 : Option Addr) (c6' : Nat) (r' : List Int), k' ≤ q.length ∧ k' ≤ 20 ∧ Value.int .i64 ((k : Int) + 1) = .int .i64 k' ∧ Value.slice A' (xs.length + 1) c' = .slice A5 xs'.length c5 ∧ xs'.length = k' ∧ OwnV w' w.heap.size 22 1 A5 c5 xs'.length (xs'.map BV) ∧ Value.slice A4 r2.length (c6 - n) = .slice A6 r'.length c6' ∧ (∀ x ∈ xs', Sub Ap p x) ∧ Sub Ap p (A6, c6', r') ∧ flat xs' ++ r' = p ∧ Own w' w.heap.size Ap cp p ∧ Below w.heap.size w w' from fun w' A' c' h1 h2 h3 =>
          ⟨k + 1, A', c', xs ++ [(A3, c6, r1)], A4, c6 - n, r2, by omega, by omega, by simp, by simp, by simp [hxl], by simpa [BV] using h1, rfl, (fun x hx => by
            rcases List.mem_append.1 hx with hx | hx
            · exact hsx x hx
            · simp only [List.mem_cons, List.not_mem_nil, or_false] at hx
              rw [hx]; exact hs1), hs2, hfl2, h2, h3⟩)
      have HOWN := Lib.hid (show OwnV wr.drew w.heap.size 22 1 A5 c5 xs.length (xs.map BV) from hown)
      have HOP := Lib.hid (show Own wr.drew w.heap.size Ap cp p from hop)
      have BEL := Lib.hid (show Below w.heap.size w wr.drew from ⟨bel.os, bel.tape, bel.output, bel.size, bel.block⟩)
      have hx20 : xs.length ≤ 1000 := by omega
      have HX20 := Lib.hid hx20
      have hq1 : (k : Int) < q.length := by omega
      have hq2 : (k : Int) < 20 := by omega
      have hq3 : (0 : Int) ≤ (k : Int) := by omega
      have hcase : (n0 : Int) ≤ r.length ∧ n = n0 ∨ ¬ ((n0 : Int) ≤ r.length) ∧ n = r.length := by omega
      clear hown hop bel hsx hsr hfl hxl hs1 hs2 hfl2 hr1 hr2 u2 u3 v2 v3 hn0 hl1 hl2 hnd hx20
      rcases hcase with ⟨h1, rfl⟩ | ⟨h1, rfl⟩
      all_goals
        go_wp2_with fail
        go_region_held3 (fun _ => True) (trivial) (first
          | (refine step_app1 (by rfl) (.tmp 29) (.tmp 33) (by rfl) w.heap.size (by rfl) (HOWN.out.below ((Below.refl _ _).alloc (Nat.le_refl _) _)) wr.drew.heap.size (.slice A3 r1.length c6) (by rfl) (Blk.new wr.drew _ _) rfl HX20.out (by have := BEL.out.size; simp at this ⊢; omega) ?_; intro A' c' w' h2 h3 h4))
        have o1 : Own w' w.heap.size Ap cp p := (HOP.out.below ((Below.refl _ _).alloc (Nat.le_refl _) _)).grown h3 (OwnV.other (HOWN.out.below ((Below.refl _ _).alloc (Nat.le_refl _) _)) (by decide))
        have b3 : Below w.heap.size w w' := (BEL.out.alloc BEL.out.size _).trans h4
        have RR := Lib.hid (RELZ.out w' A' c' h2 o1 b3)
        clear h2 h3 h4 o1 b3
        go_wp2_with fail
        go_roundw
        case rel => exact RR.out
        case measure => simp [intOf]; omega
    · have hx : flat (xs ++ [(A6, c6, r)]) = p := by rw [← hfl]; simp [flat]
      have hrs := hsr
      have hxs : ∀ x ∈ xs ++ [(A6, c6, r)], Sub Ap p x := fun x hx => by
        rcases List.mem_append.1 hx with hx | hx
        · exact hsx x hx
        · simp only [List.mem_cons, List.not_mem_nil, or_false] at hx
          rw [hx]; exact hrs
      obtain ⟨xs', hxs'⟩ : ∃ xs', xs' = xs ++ [(A6, c6, r)] := ⟨_, rfl⟩
      have hxl' : xs'.length = xs.length + 1 := by rw [hxs']; simp
      have hmap : xs.map BV ++ [.slice A6 r.length c6] = xs'.map BV := by rw [hxs']; simp [BV]
      rw [← hxs'] at hx hxs
      have HX := Lib.hid hx
      have HXS := Lib.hid hxs
      have HXL := Lib.hid hxl'
      have HMAP := Lib.hid hmap
      have HOWN := Lib.hid hown
      have HOP := Lib.hid hop
      have BEL := Lib.hid bel
      have HL63 := Lib.hid (show xs.length + 1 ≤ maxLen by unfold maxLen; omega)
      have HL64 := Lib.hid (show (xs.length + 1) * 24 ≤ 140737488355328 by omega)
      have HONE := Lib.hid (show ∀ u ∈ [Value.slice A6 r.length c6], u.oneCell' = true by
        intro u hu
        simp only [List.mem_cons, List.not_mem_nil, or_false] at hu
        rw [hu]; rfl)
      have hways : (k < q.length ∧ ∃ b off n0, A2 = some ⟨b, off, none⟩ ∧ wr.cell? ⟨b, off + k, none⟩ = some (.int .u8 (n0 : Int)) ∧ (20 : Int) ≤ k) ∨ ¬ ((k : Int) < q.length) := by
        by_cases hkq : k < q.length
        · obtain ⟨b, off, rfl, hbw⟩ := HR2.out.some_ (by omega)
          exact .inl ⟨hkq, b, off, _, rfl, (HR2.out.below bel).cell (List.getElem?_eq_getElem hkq), by omega⟩
        · exact .inr (by omega)
      have H64 := Lib.hid hxl
      clear hx hrs hxs hxs' hxl' hmap hown hop bel hsx hsr hfl hxl hend
      rcases hways with ⟨hkq, b, off, n0, rfl, hcell, hk2⟩ | hkq
      all_goals
        go_wp2_with (refine wpList_appV rfl (.tmp 39) (.tmp 41) 23 22 1 24 _ rfl Tryd.underlying23 info_bs rfl (by omega) w.heap.size rfl rfl (HOWN.out.below ((Below.refl _ _).alloc (Nat.le_refl _) _)) (Blk.new wr _ _).reads1 HONE.out HL63.out HL64.out (by have := BEL.out.size; simp; omega) ?_; intro A' c' w' h2 h3 h4)
        have o7 : Own w' w.heap.size Ap cp p := (HOP.out.below ((Below.refl _ _).alloc (Nat.le_refl _) _)).grown h3 (OwnV.other (HOWN.out.below ((Below.refl _ _).alloc (Nat.le_refl _) _)) (by decide))
        have r7 : RdBs w' A' xs' := by
          have h := h2
          rw [HMAP.out, ← HXL.out] at h
          exact h.rdbs (Rd.of_own o7) HXS.out
        have b7 : Below w.heap.size w w' := (BEL.out.alloc BEL.out.size _).trans h4
        have hc7 := OwnV.cap h2
        have O7 := Lib.hid (Sl.of_own o7)
        have R7 := Lib.hid r7
        have B7 := Lib.hid b7
        have C7 := Lib.hid hc7
        clear h2 h3 h4 o7 r7 b7 hc7 HOP HOWN BEL
        refine (CSUM.out w' A' c' _ xs' R7.out HX.out HXL.out C7.out.1 C7.out.2 B7.out).mono ?_
        rintro e w8 ⟨rfl, b8⟩
        have b8' := b8
        have B8 := Lib.hid (B7.out.trans (b8.mono B7.out.size))
        have O8 := Lib.hid (O7.out.below b8)
        have R8 := Lib.hid (R7.out.below b8)
        clear b8 b8' B7 O7 R7
        go_wp2_with fail
        refine (CSUM.out (w8.alloc (.cells #[.slice Ap p.length cp] 22)) (some ⟨w8.heap.size, 0, none⟩) 1 1 [(Ap, cp, p)] (RdBs.new (w := w8) (xs := [(Ap, cp, p)]) 22 (by
          intro x hx
          simp only [List.mem_cons, List.not_mem_nil, or_false] at hx
          rw [hx]; exact ⟨O8.out, HPB.out⟩)) (flat_one _ _ _) rfl (Nat.le_refl _) (by decide) (B8.out.alloc B8.out.size _)).mono ?_
        rintro e w9 ⟨rfl, b9⟩
        have b9' : Below w8.heap.size w8 w9 := ((Below.refl _ _).alloc (Nat.le_refl _) _).trans (b9.mono (by simp))
        have B9 := Lib.hid (B8.out.trans (b9'.mono B8.out.size))
        have O9 := Lib.hid (O8.out.below b9')
        have R9 := Lib.hid (R8.out.below b9')
        have heq1 := HEQ1.out
        have kc := KC.out
        clear b9 b9' B8 O8 R8 CSUM
        go_wp2_with fail
        have bk9 : Below w9.heap.size w9 (w9.alloc (.cells (IV .u8 [107]).toArray 5 (1, 2))) := (Below.refl _ _).alloc (Nat.le_refl _) _
        refine (CMAC.out (w9.alloc (.cells (IV .u8 [107]).toArray 5 (1, 2))) (some ⟨w9.heap.size, 0, none⟩) A' c' _ xs' (lit_sl [107] _ (by decide) rfl rfl) (R9.out.below bk9) HX.out HXL.out C7.out.1 C7.out.2 (B9.out.trans (bk9.mono B9.out.size))).mono ?_
        rintro e w10 ⟨rfl, b10⟩
        have b10' : Below w9.heap.size w9 w10 := bk9.trans (b10.mono (by simp))
        have B10 := Lib.hid (B9.out.trans (b10'.mono B9.out.size))
        have O10 := Lib.hid (O9.out.below b10')
        clear b10 b10' bk9 B9 O9 R9 heq1
        go_wp2_with fail
        have bk10 : Below w10.heap.size w10 (w10.alloc (.cells (IV .u8 [107]).toArray 5 (1, 2))) := (Below.refl _ _).alloc (Nat.le_refl _) _
        refine (CMAC.out ((w10.alloc (.cells (IV .u8 [107]).toArray 5 (1, 2))).alloc (.cells #[.slice Ap p.length cp] 22)) (some ⟨w10.heap.size, 0, none⟩) (some ⟨w10.heap.size + 1, 0, none⟩) 1 1 [(Ap, cp, p)] ((lit_sl [107] _ (by decide) rfl rfl).alloc _) (by
          have h := RdBs.new (w := w10.alloc (.cells (IV .u8 [107]).toArray 5 (1, 2))) (xs := [(Ap, cp, p)]) 22 (by
            intro x hx
            simp only [List.mem_cons, List.not_mem_nil, or_false] at hx
            rw [hx]; exact ⟨O10.out.below bk10, HPB.out⟩)
          simpa [BV] using h) (flat_one _ _ _) rfl (Nat.le_refl _) (by decide) ((B10.out.trans (bk10.mono B10.out.size)).alloc (by have := B10.out.size; simp; omega) _)).mono ?_
        rintro e w11 ⟨rfl, b11⟩
        have B11 := Lib.hid ((B10.out.trans (bk10.mono B10.out.size)).trans (((Below.refl _ _).alloc (Nat.le_refl _) _).trans (b11.mono (by simp)) |>.mono (by have := B10.out.size; simp; omega)))
        have heq2 := HEQ2.out
        clear b11 bk10 B10 O10 CMAC
        go_wp2_with fail
        go_ret
        exact ⟨rfl, B11.out⟩
end Go.Proofs.YtfpgnaeiiponmaaDoor
