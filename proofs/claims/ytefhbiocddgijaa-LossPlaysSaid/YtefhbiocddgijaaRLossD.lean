/-
  The reference's Lost.
-/
import Derived.Test.YtefhbiocddgijaaRLossC
namespace Go.Proofs.Ytefhbiocddgijaa
open Go.RowKit
set_option linter.unusedVariables false
set_option linter.unusedSimpArgs false
/-- What holds in a loop that takes and marks. -/
structure RI (w wr : World) (base x : Nat) (A : Option Addr) (c : Nat) (l : RG) (G : RPk → Bool) (k m : Nat) (A1 : Option Addr) (c1 : Nat) : Prop where
  len : m = ((l.op.take k).filter G).length
  out : OwnV wr w.heap.size 32 5 A1 c1 m (FlV RPkC ((l.op.take k).filter G))
  led : RLed wr base x A c ⟨marked G l.op k, l.nx, l.ak, l.hs⟩
  lo : ∀ b, LedS x A b → b < w.heap.size
  fr : Frm w wr (LedS x A)
section
variable {w wr : World} {base x : Nat} {A : Option Addr} {c : Nat} {l : RG} {G : RPk → Bool} {k m : Nat} {A1 : Option Addr} {c1 : Nat}
theorem RLed.lo (h : RLed w base x A c l) : ∀ b, LedS x A b → b < w.heap.size := fun b hb => by
  rcases hb with rfl | hb
  · exact h.lt
  · exact OwnV.row_lt h.own (k := b) (by rw [← hb]; exact ownBlock_len _ _ _ _ _)
theorem RI.start (h : RLed w base x A c l) : RI w w base x A c l G 0 0 none 0 :=
  ⟨by simp, OwnF.nil (C := RPkC) (k := 5) (E := 32) w w.heap.size, by rw [marked_0]; exact h, h.lo, Frm.refl _ _⟩
theorem RI.alloc (h : RI w wr base x A c l G k m A1 c1) (o : Obj) : RI w (wr.alloc o) base x A c l G k m A1 c1 :=
  ⟨h.len, OwnV.below h.out ((Below.refl _ _).alloc (Nat.le_refl _) o), h.led.below ((Below.refl _ _).alloc (Nat.le_refl _) o), h.lo, h.fr.alloc o⟩
theorem RI.drew (h : RI w wr base x A c l G k m A1 c1) : RI w wr.drew base x A c l G k m A1 c1 := ⟨h.len, h.out, h.led.drew, h.lo, h.fr.drew⟩
theorem RI.drewN (h : RI w wr base x A c l G k m A1 c1) (n : Nat) : RI w (wr.drewN n) base x A c l G k m A1 c1 := ⟨h.len, h.out, h.led.drewN n, h.lo, h.fr.drewN n⟩
theorem RI.skip (h : RI w wr base x A c l G k m A1 c1) {p : RPk} (hx : l.op[k]? = some p) (hG : G p = false) : RI w wr base x A c l G (k + 1) m A1 c1 := by
  refine ⟨?_, ?_, ?_, h.lo, h.fr⟩
  · rw [take_snoc hx, List.filter_append]; simp [hG]; exact h.len
  · rw [take_snoc hx, List.filter_append]; simp only [List.filter_cons, hG, List.filter_nil, Bool.false_eq_true, if_false, List.append_nil]; exact h.out
  · rw [marked_skip hx hG]; exact h.led
/-- One taken: its row has grown, the mark is still to be set. -/
theorem RI.took {w7 : World} (h : RI w wr base x A c l G k m A1 c1) {p : RPk} (hx : l.op[k]? = some p) (hG : G p = true) {A' : Option Addr} {c' : Nat}
    (ho : OwnV w7 w.heap.size 32 5 A' c' (m + 1) (FlV RPkC ((l.op.take k).filter G) ++ RPkC p)) (hg : wr.grownBy w7 (Value.slice A1 m c1).ownBlock) :
    RLed w7 base x A c ⟨marked G l.op k, l.nx, l.ak, l.hs⟩ ∧ ∃ g cur, A = some ⟨g, 0, none⟩ ∧ x ≠ g ∧ Blk w7 g 32 cur ∧ k * 5 + 4 < cur.size ∧ RI w (w7.setCell ⟨g, k * 5 + 4, none⟩ (.bool true)) base x A c l G (k + 1) (m + 1) A' c' := by
  have hf : Frm wr w7 (fun b => w.heap.size ≤ b) := (Frm.refl _ _).grown hg (fun r hr => .inr (OwnV.row_ge' h.out hr))
  have hl := h.led.frm hf (fun b hb hs => by have := h.lo b hb; omega)
  refine ⟨hl, ?_⟩
  obtain ⟨g, cur, rfl, hne, hk, hlt, hR, hS⟩ := hl.mark hx hG
  refine ⟨g, cur, rfl, hne, hk, hlt, ?_, ?_, hR, h.lo, ?_⟩
  · rw [take_snoc hx, List.filter_append, h.len]; simp [hG]
  · rw [take_snoc hx, List.filter_append, FlV_append]
    simp only [List.filter_cons, hG, List.filter_nil, if_true]
    rw [FlV_one]
    exact OwnV.frm ho (Frm.setS (Frm.refl _ _) (S := fun b => b = g) rfl _) (fun b hb e => by
      have h1 := OwnV.row_ge' ho hb
      have h2 := h.lo b (.inr (by rw [e]; rfl))
      omega)
  · exact (h.fr.grown hg (fun r hr => .inl (OwnV.row_ge' h.out hr))).set (.inr hS) _
end
/-- What the reference holds for lost. -/
def GL (l : RG) (now wait : Int) (p : RPk) : Bool := !p.go && l.hs && decide (p.nu < l.ak) && (decide (3 ≤ l.ak - p.nu) || (decide (p.se ≤ now) && decide (wait ≤ now - p.se)))
theorem rLost_nil (now wait : Int) (w : World) : Calls Try.prog 10 #[.pointer none, .int .u64 now, .int .u64 wait] w fun r w' => r = .returned (.slice none 0 0) ∧ w = w' := by
  go_enter Try.func10, Try.ntmps10
  go_wp2_with fail
  go_ret
  exact ⟨rfl, rfl⟩
set_option maxHeartbeats 4000000 in
set_option maxRecDepth 100000 in
theorem rLost_any (base x : Nat) (A : Option Addr) (c : Nat) (l : RG) (now wait : Int) (w : World) (h : RLed w base x A c l) (hl : l.op.length ≤ 1000000)
    (hop : ∀ p ∈ l.op, 0 ≤ p.nu ∧ 0 ≤ p.se) (hak : l.ak < 18446744073709551616) (hn : 0 ≤ now ∧ now < 18446744073709551616) :
    Calls Try.prog 10 #[.pointer (some ⟨x, 0, none⟩), .int .u64 now, .int .u64 wait] w fun r w' => ∃ m A' c', r = .returned (.slice A' m c') ∧ Hid (RI w w' base x A c l (GL l now wait) l.op.length m A' c') := by
  have c0 := h.blk.cell 0
  simp at c0
  have H0 := Lib.hid (RI.start (G := GL l now wait) h)
  have hxw := h.lt
  clear h
  go_enter Try.func10, Try.ntmps10
  go_wp2_with fail
  go_loopw [17, 7] (fun i o wr => ∃ (k m : Nat) (A1 : Option Addr) (c1 : Nat), k ≤ l.op.length ∧ i = .int .i64 k ∧ o = .slice A1 m c1 ∧ Hid (RI w wr base x A c l (GL l now wait) k m A1 c1)) (fun i _ _ => l.op.length - (intOf i).toNat)
  case atStart => exact ⟨0, 0, none, 0, by omega, rfl, rfl, H0⟩
  case round =>
    obtain ⟨k, m, A1, c1, hk, rfl, rfl, HI⟩ := hrel
    clear H0 c0
    by_cases hlt : k < l.op.length
    · obtain ⟨p, hx⟩ : ∃ p, l.op[k]? = some p := ⟨_, List.getElem?_eq_getElem hlt⟩
      have hp := hop p (List.mem_of_getElem? hx)
      obtain ⟨b, off, rfl, zb, hcell⟩ := RdR.at0 (OwnF.reads HI.out.led.own) ((marked_at (GL l now wait) l.op hlt).trans hx)
      obtain ⟨_, _, hA, _⟩ := OwnR.mark HI.out.led.own ((marked_at (GL l now wait) l.op hlt).trans hx)
      injection hA with hA
      injection hA with e1 e2
      subst e2
      clear e1
      have x0 := hcell 0 (by omega)
      have x1 := hcell 1 (by omega)
      have x2 := hcell 2 (by omega)
      have x3 := hcell 3 (by omega)
      have x4 := hcell 4 (by omega)
      clear hcell
      have HX := Lib.hid hx
      have c2 := HI.out.led.blk.cell 2
      have c3 := HI.out.led.blk.cell 3
      have hxr := HI.out.led.lt
      simp at c2 c3
      obtain ⟨nu, se, si, aq, go⟩ := p
      simp [RPkC] at x0 x1 x2 x3 x4
      simp only at hp
      clear hx
      obtain ⟨W0, hW0⟩ : ∃ W0, W0 = (wr.alloc (.cells #[.int .u64 nu, .int .u64 se, .int .i64 si, .bool aq, .bool go] 32)).drew := ⟨_, rfl⟩
      have K0 : Blk W0 wr.heap.size 32 #[.int .u64 nu, .int .u64 se, .int .i64 si, .bool aq, .bool go] := by rw [hW0]; exact Blk.new wr _ _
      have R0 : RI w W0 base x (some ⟨b, 0, none⟩) c l (GL l now wait) k m A1 c1 := by rw [hW0]; exact (HI.out.alloc _).drew
      have HW0 := Lib.hid hW0
      have HK0 := Lib.hid K0
      have HR0 := Lib.hid R0
      clear hW0 K0 R0
      have d0 := HK0.out.cell 0
      have d1 := HK0.out.cell 1
      have d2 := HK0.out.cell 2
      have d3 := HK0.out.cell 3
      have d4 := HK0.out.cell 4
      have d5 := HR0.out.led.blk.cell 2
      have dz := HK0.out.lt
      have dx := HR0.out.led.lt
      simp at d0 d1 d2 d3 d4 d5
      have hhs : l.hs = true ∨ l.hs = false := by cases l.hs <;> simp
      cases go with
      | true =>
        have hG : GL l now wait ⟨nu, se, si, aq, true⟩ = false := by simp [GL]
        have HS := Lib.hid (HR0.out.skip HX.out hG)
        clear hG
        go_wp2_with fail
        go_region
        go_wp2_with fail
        rw [← HW0.out]
        go_roundw
        case rel => exact ⟨k + 1, m, A1, c1, by omega, by go_num, rfl, HS⟩
        case measure => simp [intOf]; omega
      | false =>
        rcases hhs with hhs | hhs
        · rw [hhs] at c3
          by_cases h1 : l.ak ≤ nu
          · have e1 : decide (l.ak ≤ nu) = true := by simpa using h1
            have hG : GL l now wait ⟨nu, se, si, aq, false⟩ = false := by simp [GL]; intros; omega
            have HS := Lib.hid (HR0.out.skip HX.out hG)
            clear hG
            go_wp2_with fail
            go_region
            go_wp2_with fail
            rw [← HW0.out]
            go_roundw
            case rel => exact ⟨k + 1, m, A1, c1, by omega, by go_num, rfl, HS⟩
            case measure => simp [intOf]; omega
          · have e1 : decide (l.ak ≤ nu) = false := by simpa using h1
            have hws : IntKind.u64.wrap (l.ak - nu) = l.ak - nu := IntWalk.u64_in _ (by omega)
            by_cases h3 : 3 ≤ l.ak - nu
            · have e3 : decide (3 ≤ l.ak - nu) = true := by simpa using h3
              have hG : GL l now wait ⟨nu, se, si, aq, false⟩ = true := by simp [GL, hhs]; omega
              have HG := Lib.hid hG
              have hml : m ≤ l.op.length := by rw [HR0.out.len]; exact Nat.le_trans (List.length_filter_le _ _) (by simp; omega)
              have hzr := HR0.out.fr.size
              have HR1 := Lib.hid HR0.out.drew
              have HNEW := Lib.hid (reads_rpk W0.drew ⟨nu, se, si, aq, false⟩ 32)
              clear hG
              go_wp2_with fail
              go_region
              go_wp2_with fail
              rw [← HW0.out]
              clear x0 x1 x2 x3 x4 c2 c3
              go_region
              go_wp2_with (at_builtin; go_must (refine wpList_appV rfl (.tmp 62) (.tmp 64) 27 32 5 32 (.agg #[.int .u64 0, .int .u64 0, .int .i64 0, .bool false, .bool false]) rfl Try.underlying27 info_rpk rfl (by omega) w.heap.size (n := m) (m := 1) (xs := FlV RPkC ((l.op.take k).filter (GL l now wait))) (news := RPkC ⟨nu, se, si, aq, false⟩) (d := 1) rfl rfl (OwnV.below HR1.out.out ((Below.refl _ _).alloc (Nat.le_refl _) _)) HNEW.out (RPkC_one _) (by unfold maxLen; omega) (by omega) (by simp; omega) ?_); intro A' c' w7 hown hg7 hb7; obtain ⟨hl7, gg, cur, hA, hne, hk7, hcl, hRI⟩ := (HR1.out.alloc (.cells #[.int .u64 nu, .int .u64 se, .int .i64 si, .bool aq, .bool false] 32)).took HX.out HG.out hown hg7; injection hA with hA; injection hA with e1; subst e1; have c0 := hl7.blk.cell 0; simp [marked_len] at c0; have hc4 := hk7.cell (k * 5 + 4); rw [Array.getElem?_eq_getElem hcl] at hc4; have hf4 := hk7.frozen (k * 5 + 4); have hz4 := hk7.lt; have hzx := hl7.lt; have HRI := Lib.hid hRI; clear hown hg7 hb7 hl7 hk7 hRI)
              go_roundw
              case rel => exact ⟨k + 1, m + 1, A', c', by omega, by go_num, rfl, HRI⟩
              case measure => simp [intOf]; omega
            · have e3 : decide (3 ≤ l.ak - nu) = false := by simpa using h3
              by_cases h4 : se ≤ now
              · have e4 : decide (se ≤ now) = true := by simpa using h4
                have hws2 : IntKind.u64.wrap (now - se) = now - se := IntWalk.u64_in _ (by omega)
                by_cases h5 : wait ≤ now - se
                · have e5 : decide (wait ≤ now - se) = true := by simpa using h5
                  have hG : GL l now wait ⟨nu, se, si, aq, false⟩ = true := by simp [GL, hhs]; omega
                  have HG := Lib.hid hG
                  have hml : m ≤ l.op.length := by rw [HR0.out.len]; exact Nat.le_trans (List.length_filter_le _ _) (by simp; omega)
                  have hzr := HR0.out.fr.size
                  have HR1 := Lib.hid HR0.out.drew
                  have HNEW := Lib.hid (reads_rpk W0.drew ⟨nu, se, si, aq, false⟩ 32)
                  clear hG
                  go_wp2_with fail
                  go_region
                  go_wp2_with fail
                  rw [← HW0.out]
                  clear x0 x1 x2 x3 x4 c2 c3
                  go_region
                  go_wp2_with (at_builtin; go_must (refine wpList_appV rfl (.tmp 62) (.tmp 64) 27 32 5 32 (.agg #[.int .u64 0, .int .u64 0, .int .i64 0, .bool false, .bool false]) rfl Try.underlying27 info_rpk rfl (by omega) w.heap.size (n := m) (m := 1) (xs := FlV RPkC ((l.op.take k).filter (GL l now wait))) (news := RPkC ⟨nu, se, si, aq, false⟩) (d := 1) rfl rfl (OwnV.below HR1.out.out ((Below.refl _ _).alloc (Nat.le_refl _) _)) HNEW.out (RPkC_one _) (by unfold maxLen; omega) (by omega) (by simp; omega) ?_); intro A' c' w7 hown hg7 hb7; obtain ⟨hl7, gg, cur, hA, hne, hk7, hcl, hRI⟩ := (HR1.out.alloc (.cells #[.int .u64 nu, .int .u64 se, .int .i64 si, .bool aq, .bool false] 32)).took HX.out HG.out hown hg7; injection hA with hA; injection hA with e1; subst e1; have c0 := hl7.blk.cell 0; simp [marked_len] at c0; have hc4 := hk7.cell (k * 5 + 4); rw [Array.getElem?_eq_getElem hcl] at hc4; have hf4 := hk7.frozen (k * 5 + 4); have hz4 := hk7.lt; have hzx := hl7.lt; have HRI := Lib.hid hRI; clear hown hg7 hb7 hl7 hk7 hRI)
                  go_roundw
                  case rel => exact ⟨k + 1, m + 1, A', c', by omega, by go_num, rfl, HRI⟩
                  case measure => simp [intOf]; omega
                · have e5 : decide (wait ≤ now - se) = false := by simpa using h5
                  have hG : GL l now wait ⟨nu, se, si, aq, false⟩ = false := by simp [GL]; intros; omega
                  have HS := Lib.hid (HR0.out.drew.skip HX.out hG)
                  clear hG
                  go_wp2_with fail
                  go_region
                  go_wp2_with fail
                  rw [← HW0.out]
                  go_region
                  go_wp2_with fail
                  go_roundw
                  case rel => exact ⟨k + 1, m, A1, c1, by omega, by go_num, rfl, HS⟩
                  case measure => simp [intOf]; omega
              · have e4 : decide (se ≤ now) = false := by simpa using h4
                have hG : GL l now wait ⟨nu, se, si, aq, false⟩ = false := by simp [GL]; intros; omega
                have HS := Lib.hid (HR0.out.drew.skip HX.out hG)
                clear hG
                go_wp2_with fail
                go_region
                go_wp2_with fail
                rw [← HW0.out]
                go_region
                go_wp2_with fail
                go_roundw
                case rel => exact ⟨k + 1, m, A1, c1, by omega, by go_num, rfl, HS⟩
                case measure => simp [intOf]; omega
        · rw [hhs] at c3
          have hG : GL l now wait ⟨nu, se, si, aq, false⟩ = false := by simp [GL, hhs]
          have HS := Lib.hid (HR0.out.skip HX.out hG)
          clear hG
          go_wp2_with fail
          go_region
          go_wp2_with fail
          rw [← HW0.out]
          go_roundw
          case rel => exact ⟨k + 1, m, A1, c1, by omega, by go_num, rfl, HS⟩
          case measure => simp [intOf]; omega
    · have hd : decide (k < l.op.length) = false := by simpa using hlt
      obtain rfl : k = l.op.length := by omega
      go_wp2_with fail
      go_ret
      exact ⟨m, A1, c1, rfl, HI⟩
end Go.Proofs.Ytefhbiocddgijaa
