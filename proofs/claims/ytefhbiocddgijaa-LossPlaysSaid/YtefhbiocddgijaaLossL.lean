/-
  Due.
-/
import Derived.Test.YtefhbiocddgijaaLossK
namespace Go.Proofs.Ytefhbiocddgijaa
open Go.RowKit
set_option linter.unusedVariables false
set_option linter.unusedSimpArgs false

theorem minP_ok (p : PK) (l : List PK) (h : ∀ q ∈ p :: l, 0 ≤ q.se ∧ q.se ≤ 4611686018427387903) : 0 ≤ (minP p l).se ∧ (minP p l).se ≤ 4611686018427387903 := by
  induction l generalizing p with
  | nil => exact h p (by simp)
  | cons x l ih =>
    refine ih (if x.se < p.se then x else p) fun q hq => ?_
    rcases List.mem_cons.1 hq with rfl | hq
    · split
      · exact h x (by simp)
      · exact h p (by simp)
    · exact h q (by simp [hq])
set_option maxRecDepth 100000 in
set_option maxHeartbeats 1000000 in
theorem LDue_any (base g : Nat) (A : Option Addr) (c : Nat) (l : LG) (t : Int) (w : World) (h : Led w base g A c l) (ok : LgOk l) (hl : l.op.length ≤ 1000000) (ht : 0 ≤ t) :
    Calls Try.prog 16 #[.pointer (some ⟨g, 0, none⟩), .int .u64 t] w fun r w' => r = .returned (.tuple #[.int .u64 (dueN l t).1, .bool (dueN l t).2]) ∧ Below w.heap.size w w' := by
  have hcap : l.op.length ≤ c ∧ (A = none → c = 0) ∧ c ≤ maxLen := by
    rcases h.own.2 with ⟨h1, h2⟩ | ⟨g', cap, cur, hv, _, _, h3, h4, _⟩
    · injection h1 with e1 e2 e3
      exact ⟨by omega, fun _ => e3, by unfold maxLen; omega⟩
    · injection hv with e1 e2 e3
      subst e3
      exact ⟨h3, (fun e => by rw [e] at e1; cases e1), h4⟩
  obtain ⟨W, hW⟩ : ∃ W, W = w.alloc (.cells #[.pointer (some ⟨g, 0, none⟩)] 24) := ⟨_, rfl⟩
  have bW : Below w.heap.size w W := by rw [hW]; exact (Below.refl _ _).alloc (Nat.le_refl _) _
  have K : Blk W w.heap.size 24 #[.pointer (some ⟨g, 0, none⟩)] := by rw [hW]; exact Blk.new w _ _
  have L1 := h.below bW
  have HS := Lib.hid (fun m => dueSearch_any w.heap.size base g A c l (W.drewN m) (K.drewN m) (L1.drewN m) ok hl)
  obtain ⟨e1, e2⟩ := lowL_take ok
  have hrd : RdP W A l.op := OwnF.reads L1.own
  have hpk := ok.pk
  have k0 := K.cell 0
  have c0 := L1.blk.cell 0
  simp at k0 c0
  have HRD := Lib.hid hrd
  have HE := Lib.hid e1
  have HB := Lib.hid bW
  clear hrd e1 L1 K h bW
  obtain ⟨R, hR⟩ : ∃ R, R = (lowL l).length := ⟨_, rfl⟩
  rw [← hR] at e2
  have HRR := Lib.hid hR
  have HS2 := HS.out
  rw [← hR] at HS2
  have HS := Lib.hid HS2
  clear HS2 hR
  go_enter Try.func16, Try.ntmps16
  go_wp2_with fail
  rw [← hW]
  clear hW
  go_wp2_with fail
  go_quiet ((go_at_call 29; exact Calls.quiet_of (HS.out _)))
  rcases hlow : lowL l with _ | ⟨p, L⟩
  · have hR0 : R = 0 := by rw [HRR.out, hlow]; rfl
    subst hR0
    have HD := Lib.hid (show dueN l t = (0, false) by unfold dueN; rw [hlow])
    clear hlow
    go_wp2_with fail
    exact bodyPost_ret (results_tmp2 rfl _ _ _) rfl ⟨by rw [HD.out]; rfl, below_drewN HB.out _⟩
  · have hR1 : R = L.length + 1 := by rw [HRR.out, hlow]; rfl
    have hDD : dueN l t = ((minP p L).se + min t 4611686018427387903, true) := by unfold dueN; rw [hlow]
    have hse := minP_ok p L (fun q hq => by
      rw [← hlow] at hq
      have := (hpk q (List.mem_filter.1 hq).1).1
      unfold PkOk at this
      omega)
    have hrd2 : RdP W A (p :: L) := by
      have h1 := Reads.upto HRD.out e2
      rw [FlV_take PkC 4 PkC_len l.op R e2] at h1
      have h2 : l.op.take R = p :: L := by rw [HRR.out, ← HE.out, hlow]
      rw [h2, hR1] at h1
      exact h1
    have HMF := Lib.hid (fun m => minFunc_any A c p L (W.drewN m) hrd2 (by omega))
    generalize minP p L = M at *
    obtain ⟨Z, hZ⟩ : ∃ Z, Z = min t 4611686018427387903 := ⟨_, rfl⟩
    have Z1 : (if t < 4611686018427387903 then t else 4611686018427387903) = Z := by rw [hZ]; split <;> omega
    have Z2 : (if 4611686018427387903 < t then 4611686018427387903 else t) = Z := by rw [hZ]; split <;> omega
    rw [← hZ] at hDD
    have hZb : 0 ≤ Z ∧ Z ≤ 4611686018427387903 := by omega
    have hwz : IntKind.u64.wrap (M.se + Z) = M.se + Z := IntWalk.u64_in _ (by omega)
    have HD := Lib.hid hDD
    subst hR1
    have HZ := Lib.hid hZ
    clear hDD hlow hrd2 hZ hpk
    go_wp2_with fail
    refine (HMF.out _).mono ?_
    rintro e w3 ⟨rfl, g3⟩
    have b3 := Lib.hid ((below_drewN HB.out nq).trans ((gb_below g3).mono (by have := HB.out.size; exact this)))
    clear g3 HMF
    go_wp2_with fail
    exact bodyPost_ret (results_tmp2 rfl _ _ _) rfl ⟨by rw [HD.out, HZ.out]; rfl, b3.out.alloc b3.out.size _⟩
end Go.Proofs.Ytefhbiocddgijaa
