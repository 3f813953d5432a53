/-
  The ledger: Send.
-/
import Derived.Test.YtefhbiocddgijaaLossA
namespace Go.Proofs.Ytefhbiocddgijaa
open Go.RowKit
set_option linter.unusedVariables false
set_option linter.unusedSimpArgs false

/-- The blocks of a ledger. -/
def LedS (g : Nat) (A : Option Addr) (b : Nat) : Prop := b = g ∨ (Value.slice A 0 0).ownBlock = some b
theorem Led.frm {w w' : World} {base g : Nat} {A : Option Addr} {c : Nat} {l : LG} {S : Nat → Prop} (h : Led w base g A c l) (hf : Frm w w' S) (hs : ∀ b, LedS g A b → ¬ S b) : Led w' base g A c l :=
  ⟨hf.keep h.blk (hs g (.inl rfl)), OwnV.frm h.own hf (fun k hk => hs k (.inr (by rw [← hk]; exact ownBlock_len _ _ _ _ _))), h.le⟩
/-- What a call leaves that only touches the ledger. -/
structure LTo (w w' : World) (base g : Nat) (A : Option Addr) (l' : LG) : Prop where
  ex : ∃ A' c', Led w' base g A' c' l' ∧ ∀ b, LedS g A' b → LedS g A b ∨ w.heap.size ≤ b
  fr : Frm w w' (LedS g A)
/-- .. and makes no new row. -/
structure LTo0 (w w' : World) (base g : Nat) (A : Option Addr) (l' : LG) : Prop where
  ex : ∃ A' c', Led w' base g A' c' l' ∧ ∀ b, LedS g A' b → LedS g A b
  fr : Frm w w' (LedS g A)
theorem sendE_1 (l : LG) (p : PK) (h : p.si < 0 ∨ 4611686018427387903 < p.nu ∨ 4611686018427387903 < p.se) : sendE l p = 1 := if_pos h
theorem sendE_4 (l : LG) (p : PK) (h : ¬ (p.si < 0 ∨ 4611686018427387903 < p.nu ∨ 4611686018427387903 < p.se)) (h2 : p.nu < l.nx) : sendE l p = 4 := by unfold sendE; rw [if_neg h, if_pos h2]
theorem sendE_0 (l : LG) (p : PK) (h : ¬ (p.si < 0 ∨ 4611686018427387903 < p.nu ∨ 4611686018427387903 < p.se)) (h2 : ¬ p.nu < l.nx) : sendE l p = 0 := by unfold sendE; rw [if_neg h, if_neg h2]
/-- A ledger whose list got one more. -/
theorem led_more {w w5 : World} {base g : Nat} {A A2 : Option Addr} {c c2 : Nat} {l : LG} {p : PK} (h : Led w base g A c l) (hown : OwnV w5 base 49 4 A2 c2 (l.op.length + 1) (FlV PkC l.op ++ PkC p))
    (hg : w.grownBy w5 (Value.slice A l.op.length c).ownBlock) :
    Led ((w5.setCell ⟨g, 0, none⟩ (.slice A2 (l.op.length + 1) c2)).setCell ⟨g, 1, none⟩ (.int .u64 (p.nu + 1))) base g A2 c2 ⟨l.op ++ [p], p.nu + 1, l.ak, l.hs⟩ := by
  have k5 : Blk w5 g 63 _ := h.blk.grown hg (fun e => (h.ne g e.symm) rfl)
  have hne : ∀ k, (Value.slice A2 (l.op.length + 1) c2).ownBlock = some k → k ≠ g := by
    intro k hk
    rcases hown.2 with ⟨h1, _⟩ | ⟨g', cap, cur, hv, _, hh, _⟩
    · rw [h1] at hk; cases hk
    · rw [hv] at hk
      simp [Value.ownBlock] at hk
      subst hk
      exact fun e => Blk.ne_ k5 hh (by decide) e.symm
  refine ⟨?_, ?_, h.le⟩
  · have := Blk.set_ (Blk.set_ k5 0 (.slice A2 (l.op.length + 1) c2)) 1 (.int .u64 (p.nu + 1))
    simpa using this
  · have h1 := OwnV.apart hown (gb_set (gb_refl _ _) (p := ⟨g, 0, none⟩) rfl (.slice A2 (l.op.length + 1) c2)) (fun k hk e => by injection e with e; exact hne k hk e.symm)
    have h2 := OwnV.apart h1 (gb_set (gb_refl _ _) (p := ⟨g, 1, none⟩) rfl (.int .u64 (p.nu + 1))) (fun k hk e => by injection e with e; exact hne k hk e.symm)
    unfold OwnP OwnF
    simp only [List.length_append, List.length_cons, List.length_nil, FlV_append, FlV_one]
    exact h2

set_option maxRecDepth 100000 in
theorem LSend_any (base g : Nat) (A : Option Addr) (c : Nat) (l : LG) (p : PK) (w : World) (h : Led w base g A c l) (hb : base ≤ w.heap.size) (hn : 0 ≤ p.nu) (hl : l.op.length ≤ 1000000) :
    Calls Try.prog 13 #[.pointer (some ⟨g, 0, none⟩), .agg #[.int .u64 p.nu, .int .u64 p.se, .int .i64 p.si, .bool p.aq]] w fun r w' => r = .returned (.int .i64 (sendE l p)) ∧ LTo w w' base g A (lSend l p) := by
  by_cases hbad : p.si < 0 ∨ 4611686018427387903 < p.nu ∨ 4611686018427387903 < p.se
  · have he := sendE_1 l p hbad
    have hs : lSend l p = l := by unfold lSend; rw [he]; simp
    rw [he, hs]
    have H := Lib.hid (h.frm ((Frm.refl w (fun _ => False)).alloc (.cells #[.int .u64 p.nu, .int .u64 p.se, .int .i64 p.si, .bool p.aq] 49)) (fun _ _ => id))
    clear h he hs
    obtain ⟨nu, se, si, aq⟩ := p
    simp only at *
    rcases (show si < 0 ∨ (¬ si < 0 ∧ 4611686018427387903 < nu) ∨ (¬ si < 0 ∧ ¬ 4611686018427387903 < nu ∧ 4611686018427387903 < se) by omega) with h1 | ⟨h1, h2⟩ | ⟨h1, h2, h3⟩
    · clear hbad
      go_enter Try.func13, Try.ntmps13
      go_wp2_with fail
      go_ret
      exact ⟨rfl, ⟨⟨A, c, H.out, (fun _ h => .inl h)⟩, (Frm.refl _ _).alloc _⟩⟩
    · clear hbad
      have hd1 : decide (si < 0) = false := by simpa using h1
      go_enter Try.func13, Try.ntmps13
      go_wp2_with fail
      go_ret
      exact ⟨rfl, ⟨⟨A, c, H.out, (fun _ h => .inl h)⟩, (Frm.refl _ _).alloc _⟩⟩
    · clear hbad
      have hd1 : decide (si < 0) = false := by simpa using h1
      have hd2 : decide (4611686018427387903 < nu) = false := by simpa using h2
      go_enter Try.func13, Try.ntmps13
      go_wp2_with fail
      go_ret
      exact ⟨rfl, ⟨⟨A, c, H.out, (fun _ h => .inl h)⟩, (Frm.refl _ _).alloc _⟩⟩
  · by_cases hlow : p.nu < l.nx
    · have he := sendE_4 l p hbad hlow
      have hs : lSend l p = l := by unfold lSend; rw [he]; simp
      rw [he, hs]
      have H1 := h.frm ((Frm.refl w (fun _ => False)).alloc (.cells #[.int .u64 p.nu, .int .u64 p.se, .int .i64 p.si, .bool p.aq] 49)) (fun _ _ => id)
      have c1 := h.blk.cell 1
      simp at c1
      have z := h.lt
      have H := Lib.hid H1
      clear h he hs H1
      obtain ⟨nu, se, si, aq⟩ := p
      simp only at *
      have hd1 : decide (si < 0) = false := by simp; omega
      have hd2 : decide (4611686018427387903 < nu) = false := by simp; omega
      have hd3 : decide (4611686018427387903 < se) = false := by simp; omega
      clear hbad
      go_enter Try.func13, Try.ntmps13
      go_wp2_with fail
      go_region
      go_wp2_with fail
      go_ret
      exact ⟨rfl, ⟨⟨A, c, H.out.drewN 1, (fun _ h => .inl h)⟩, ((Frm.refl _ _).alloc _).drewN 1⟩⟩
    · have he := sendE_0 l p hbad hlow
      have hs : lSend l p = ⟨l.op ++ [p], p.nu + 1, l.ak, l.hs⟩ := by unfold lSend; rw [he]; simp
      rw [he, hs]
      have H1 := h.frm ((Frm.refl w (fun _ => False)).alloc (.cells #[.int .u64 p.nu, .int .u64 p.se, .int .i64 p.si, .bool p.aq] 49)) (fun _ _ => id)
      have c0 := h.blk.cell 0
      have c1 := h.blk.cell 1
      have f0 := h.blk.frozen 0
      simp at c0 c1
      have z := h.lt
      have hrow : ∀ k, (Value.slice A 0 0).ownBlock = some k → k < w.heap.size := fun k hk => OwnV.row_lt h.own (by rw [← hk]; exact ownBlock_len _ _ _ _ _)
      have HROW := Lib.hid hrow
      have H := Lib.hid H1
      clear h he hs H1 hrow
      have hwr : IntKind.u64.wrap (p.nu + 1) = p.nu + 1 := IntWalk.u64_in _ (by omega)
      obtain ⟨nu, se, si, aq⟩ := p
      simp only at *
      have hd1 : decide (si < 0) = false := by simp; omega
      have hd2 : decide (4611686018427387903 < nu) = false := by simp; omega
      have hd3 : decide (4611686018427387903 < se) = false := by simp; omega
      have hd4 : decide (nu < l.nx) = false := by simpa using hlow
      clear hbad hlow
      go_enter Try.func13, Try.ntmps13
      go_wp2_with fail
      go_region
      go_wp2_with fail
      obtain ⟨W, hW⟩ : ∃ W, W = (w.alloc (.cells #[.int .u64 nu, .int .u64 se, .int .i64 si, .bool aq] 49)).drew := ⟨_, rfl⟩
      have HL : Led W base g A c l := by rw [hW]; exact H.out.drew
      have HF : Frm w W (LedS g A) := by rw [hW]; exact ((Frm.refl _ _).alloc _).drew
      have HB : Blk W w.heap.size 49 #[.int .u64 nu, .int .u64 se, .int .i64 si, .bool aq] := by rw [hW]; exact Blk.new w _ _
      clear c0 c1 f0
      have c0 := HL.blk.cell 0
      have f0 := HL.blk.frozen 0
      have k0 := HB.cell 0
      have k1 := HB.cell 1
      have k2 := HB.cell 2
      have k3 := HB.cell 3
      simp at c0 k0 k1 k2 k3
      have hsz : w.heap.size < W.heap.size := HB.lt
      have HL2 := Lib.hid HL
      have HF2 := Lib.hid HF
      have HB2 := Lib.hid HB
      clear HL HF HB H
      rw [← hW]
      clear hW
      obtain ⟨W2, hW2⟩ : ∃ W2, W2 = (W.alloc (.cells #[.int .u64 nu, .int .u64 se, .int .i64 si, .bool aq] 49)).drew := ⟨_, rfl⟩
      have LA : Led W2 base g A c l := by rw [hW2]; exact (HL2.out.below ((Below.refl _ _).alloc (Nat.le_refl W.heap.size) _)).drew
      have RA : Reads W2 W2.heap.size 4 (some ⟨W.heap.size, 0, none⟩) 1 (PkC ⟨nu, se, si, aq⟩) := by rw [hW2]; exact reads_pk W ⟨nu, se, si, aq⟩ 49
      have zW : g < W.heap.size := HL2.out.lt
      have hbase : base ≤ W2.heap.size := by have := LA.le; have := LA.lt; omega
      have FA : Frm w W2 (LedS g A) := by rw [hW2]; exact (HF2.out.alloc _).drew
      have BA : Blk W2 w.heap.size 49 #[.int .u64 nu, .int .u64 se, .int .i64 si, .bool aq] := by rw [hW2]; exact HB2.out.alloc _
      have HLA := Lib.hid LA
      have HRA := Lib.hid RA
      have HFA := Lib.hid FA
      have HBA := Lib.hid BA
      have HW2 := Lib.hid hW2
      have h63 : l.op.length + 1 ≤ maxLen := by unfold maxLen; omega
      have hby : (l.op.length + 1) * 32 ≤ 140737488355328 := by omega
      clear LA RA FA BA hW2
      go_region_law (rw [← HW2.out]; refine step_appV rfl (.tmp 34) (.tmp 36) 36 49 4 32 (.agg #[.int .u64 0, .int .u64 0, .int .i64 0, .bool false]) rfl Try.underlying36 info_pk rfl (by omega) base (n := l.op.length) (m := 1) (xs := FlV PkC l.op) (news := PkC ⟨nu, se, si, aq⟩) (d := 1) rfl rfl HLA.out.own HRA.out (PkC_one _) h63 hby hbase ?_; intro A2 c2 w5 hown hg hb5 hrow; have k5 := HLA.out.blk.grown hg (fun e => (HLA.out.ne g e.symm) rfl); have e5 := k5.cell 0; have f5 := k5.frozen 0; have z5 := k5.lt)
      all_goals (
        obtain ⟨W3, hW3⟩ : ∃ W3, W3 = w5.setCell ⟨g, 0, none⟩ (.slice A2 (l.op.length + 1) c2) := ⟨_, rfl⟩
        have K3 := Blk.set_ k5 0 (.slice A2 (l.op.length + 1) c2)
        rw [← hW3] at K3
        have hP : W2.grownBy w5 (Value.slice A l.op.length c).ownBlock := hg
        have bB : ∃ cs, Blk w5 w.heap.size 49 cs ∧ cs[0]? = some (.int .u64 nu) := by
          refine ⟨_, HBA.out.grown hg (fun e => ?_), rfl⟩
          have := HROW.out w.heap.size (by rw [e]; exact ownBlock_len _ _ _ _ _)
          omega
        obtain ⟨cs, bB1, bB2⟩ := bB
        have bB3 : Blk W3 w.heap.size 49 cs := by rw [hW3]; exact bB1.far (by simp; omega) _
        have q0 := bB3.cell 0
        rw [bB2] at q0
        have f1 := K3.frozen 1
        have z3 := K3.lt
        have c3 := K3.cell 1
        simp at c3
        have HK := Lib.hid hown
        have HP := Lib.hid hP
        have HR := Lib.hid hrow
        have H3 := Lib.hid hW3
        rw [← hW3]
        clear hown hg hb5 hrow k5 e5 f5 z5 bB1 bB2 bB3 K3 hP hW3
        go_wp2_with fail
        go_ret
        have hg5 := HP.out
        have F5 : Frm w w5 (LedS g A) := HFA.out.grown hg5 (fun r hr => by
          right; right
          rw [← hr]; exact ownBlock_len _ _ _ _ _)
        refine ⟨rfl, ⟨A2, c2, by rw [H3.out]; exact led_more HLA.out HK.out hg5, ?_⟩, ?_⟩
        · rintro b (h1 | h1)
          · exact .inl (.inl h1)
          · rcases HR.out with h2 | h2
            · left; right
              rw [← h1, ownBlock_len A2 0 (l.op.length + 1) 0 c2, h2]; exact ownBlock_len _ _ _ _ _
            · right
              rw [ownBlock_len A2 0 (l.op.length + 1) 0 c2, h2] at h1
              injection h1 with h1
              have := HFA.out.size
              omega
        · rw [H3.out]
          exact (F5.set (p := ⟨g, 0, none⟩) (.inr (.inl rfl)) _).set (p := ⟨g, 1, none⟩) (.inr (.inl rfl)) _)
end Go.Proofs.Ytefhbiocddgijaa
