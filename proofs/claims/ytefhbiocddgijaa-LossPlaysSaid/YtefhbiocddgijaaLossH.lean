/-
  Lost, Clear.
-/
import Derived.Test.YtefhbiocddgijaaLossG
namespace Go.Proofs.Ytefhbiocddgijaa
open Go.RowKit
set_option linter.unusedVariables false
set_option linter.unusedSimpArgs false

/-- What Lost's closure reads. -/
structure LoC (g Bl Bn Bw : Nat) (ak now wait : Int) (k : Nat) (w : World) : Prop where
  bl : Blk w Bl 24 #[.pointer (some ⟨g, 0, none⟩)]
  bn : Blk w Bn 28 #[.int .u64 now]
  bw : Blk w Bw 28 #[.int .u64 wait]
  bg : ∃ cs, Blk w g 63 cs ∧ cs[2]? = some (.int .u64 ak)
theorem LoC.frm {g Bl Bn Bw : Nat} {ak now wait : Int} {k m : Nat} {w w' : World} {S : Nat → Prop} (h : LoC g Bl Bn Bw ak now wait k w) (hf : Frm w w' S) (h1 : ¬ S Bl) (h2 : ¬ S Bn) (h3 : ¬ S Bw) (h4 : ¬ S g) : LoC g Bl Bn Bw ak now wait m w' := by
  obtain ⟨a, b, c, cs, d, e⟩ := h
  exact ⟨hf.keep a h1, hf.keep b h2, hf.keep c h3, cs, hf.keep d h4, e⟩
set_option maxHeartbeats 1000000 in
theorem lost1_any (g Bl Bn Bw : Nat) (ak now wait : Int) (k : Nat) (p : PK) (w : World) (h : LoC g Bl Bn Bw ak now wait k w) (hp : 0 ≤ p.nu ∧ 0 ≤ p.se) (hak : ak ≤ 4611686018427387903) (hn : 0 ≤ now ∧ now < 18446744073709551616) :
    Calls Try.prog 27 #[.agg #[.int .u64 p.nu, .int .u64 p.se, .int .i64 p.si, .bool p.aq], .pointer (some ⟨Bl, 0, none⟩), .pointer (some ⟨Bn, 0, none⟩), .pointer (some ⟨Bw, 0, none⟩)] w fun e w' =>
      e = .returned (.bool (decide (p.nu < ak) && ((decide (p.se ≤ now) && decide (wait ≤ now - p.se)) || decide (3 ≤ ak - p.nu)))) ∧ LoC g Bl Bn Bw ak now wait (k + 1) w' ∧ w.grownBy w' none := by
  obtain ⟨nu, se, si, aq⟩ := p
  simp only at *
  obtain ⟨W, hW⟩ : ∃ W, W = w.alloc (.cells #[.int .u64 nu, .int .u64 se, .int .i64 si, .bool aq] 49) := ⟨_, rfl⟩
  have H1 : LoC g Bl Bn Bw ak now wait (k + 1) W := by rw [hW]; exact h.frm (S := fun _ => False) ((Frm.refl _ _).alloc _) id id id id
  have KB : Blk W w.heap.size 49 #[.int .u64 nu, .int .u64 se, .int .i64 si, .bool aq] := by rw [hW]; exact Blk.new w _ _
  have G1 : w.grownBy W none := by rw [hW]; exact World.grownBy_alloc w _ _
  obtain ⟨a1, a2, a3, cs, a4, a5⟩ := H1
  have k0 := KB.cell 0
  have k1 := KB.cell 1
  have b0 := a1.cell 0
  have n0 := a2.cell 0
  have w0 := a3.cell 0
  have g2 := a4.cell 2
  rw [a5] at g2
  simp at k0 k1 b0 n0 w0
  have HH := Lib.hid (show LoC g Bl Bn Bw ak now wait (k + 1) W from ⟨a1, a2, a3, cs, a4, a5⟩)
  have HG := Lib.hid G1
  clear a1 a2 a3 a4 a5 KB G1 h
  go_enter Try.func27, Try.ntmps27
  go_wp2_with fail
  rw [← hW]
  clear hW
  go_wp2_with fail
  have hgd : ∀ n, w.grownBy (W.drewN n) none := fun n => gb_drewN HG.out n
  have hhd : ∀ n, LoC g Bl Bn Bw ak now wait (k + 1) (W.drewN n) := fun n => by
    obtain ⟨a, b, c, d⟩ := HH.out
    exact ⟨a, b, c, d⟩
  have HGD := Lib.hid hgd
  have HHD := Lib.hid hhd
  clear hgd hhd
  rcases (show ak ≤ nu ∨ (nu < ak ∧ se ≤ now ∧ wait ≤ now - se) ∨ (nu < ak ∧ se ≤ now ∧ ¬ wait ≤ now - se ∧ 3 ≤ ak - nu) ∨ (nu < ak ∧ se ≤ now ∧ ¬ wait ≤ now - se ∧ ¬ 3 ≤ ak - nu) ∨ (nu < ak ∧ ¬ se ≤ now ∧ 3 ≤ ak - nu) ∨ (nu < ak ∧ ¬ se ≤ now ∧ ¬ 3 ≤ ak - nu) by omega) with h1 | ⟨h1, h2, h3⟩ | ⟨h1, h2, h3, h4⟩ | ⟨h1, h2, h3, h4⟩ | ⟨h1, h2, h4⟩ | ⟨h1, h2, h4⟩
  · have e9 : decide (nu < ak) = false := by simpa using h1
    have HE := Lib.hid e9
    clear e9
    go_quiet (fail)
    go_wp2_with fail
    go_ret
    exact ⟨by rw [HE.out]; rfl, HHD.out _, HGD.out _⟩
  · have e9 : (decide (nu < ak) && ((decide (se ≤ now) && decide (wait ≤ now - se)) || decide (3 ≤ ak - nu))) = true := by simp; omega
    have HE := Lib.hid e9
    have hd1 : decide (ak ≤ nu) = false := by simpa using h1
    have hd2 : decide (se ≤ now) = true := by simpa using h2
    have hwr : IntKind.u64.wrap (now - se) = now - se := IntWalk.u64_in _ (by omega)
    have hd3 : decide (wait ≤ now - se) = true := by simpa using h3
    have hwr2 : IntKind.u64.wrap (ak - nu) = ak - nu := IntWalk.u64_in _ (by omega)
    clear e9
    go_quiet (fail)
    go_wp2_with fail
    obtain ⟨w1, hw1⟩ : ∃ w1, w1 = W.drewN nq := ⟨_, rfl⟩
    rw [← hw1]
    have k0' : w1.cell? ⟨w.heap.size, 0, none⟩ = some (.int .u64 nu) := by rw [hw1]; exact k0
    have k1' : w1.cell? ⟨w.heap.size, 1, none⟩ = some (.int .u64 se) := by rw [hw1]; exact k1
    have b0' : w1.cell? ⟨Bl, 0, none⟩ = some (.pointer (some ⟨g, 0, none⟩)) := by rw [hw1]; exact b0
    have n0' : w1.cell? ⟨Bn, 0, none⟩ = some (.int .u64 now) := by rw [hw1]; exact n0
    have w0' : w1.cell? ⟨Bw, 0, none⟩ = some (.int .u64 wait) := by rw [hw1]; exact w0
    have g2' : w1.cell? ⟨g, 2, none⟩ = some (.int .u64 ak) := by rw [hw1]; exact g2
    have HG1 := Lib.hid (show ∀ n, w.grownBy (w1.drewN n) none from fun n => by rw [hw1]; exact gb_drewN (HGD.out nq) n)
    have HH1 := Lib.hid (show ∀ n, LoC g Bl Bn Bw ak now wait (k + 1) (w1.drewN n) from fun n => by
      obtain ⟨a, b, c, d⟩ := HHD.out nq
      rw [hw1]; exact ⟨a, b, c, d⟩)
    clear k0 k1 b0 n0 w0 g2 hw1 HGD HHD HH HG
    go_wp2_with fail
    go_quiet (fail)
    go_wp2_with fail
    go_ret
    exact ⟨by rw [HE.out]; rfl, HH1.out _, HG1.out _⟩
  · have e9 : (decide (nu < ak) && ((decide (se ≤ now) && decide (wait ≤ now - se)) || decide (3 ≤ ak - nu))) = true := by simp; omega
    have HE := Lib.hid e9
    have hd1 : decide (ak ≤ nu) = false := by simpa using h1
    have hd2 : decide (se ≤ now) = true := by simpa using h2
    have hwr : IntKind.u64.wrap (now - se) = now - se := IntWalk.u64_in _ (by omega)
    have hd3 : decide (wait ≤ now - se) = false := by simpa using h3
    have hd4 : decide (3 ≤ ak - nu) = true := by simpa using h4
    have hwr2 : IntKind.u64.wrap (ak - nu) = ak - nu := IntWalk.u64_in _ (by omega)
    clear e9
    go_quiet (fail)
    go_wp2_with fail
    obtain ⟨w1, hw1⟩ : ∃ w1, w1 = W.drewN nq := ⟨_, rfl⟩
    rw [← hw1]
    have k0' : w1.cell? ⟨w.heap.size, 0, none⟩ = some (.int .u64 nu) := by rw [hw1]; exact k0
    have k1' : w1.cell? ⟨w.heap.size, 1, none⟩ = some (.int .u64 se) := by rw [hw1]; exact k1
    have b0' : w1.cell? ⟨Bl, 0, none⟩ = some (.pointer (some ⟨g, 0, none⟩)) := by rw [hw1]; exact b0
    have n0' : w1.cell? ⟨Bn, 0, none⟩ = some (.int .u64 now) := by rw [hw1]; exact n0
    have w0' : w1.cell? ⟨Bw, 0, none⟩ = some (.int .u64 wait) := by rw [hw1]; exact w0
    have g2' : w1.cell? ⟨g, 2, none⟩ = some (.int .u64 ak) := by rw [hw1]; exact g2
    have HG1 := Lib.hid (show ∀ n, w.grownBy (w1.drewN n) none from fun n => by rw [hw1]; exact gb_drewN (HGD.out nq) n)
    have HH1 := Lib.hid (show ∀ n, LoC g Bl Bn Bw ak now wait (k + 1) (w1.drewN n) from fun n => by
      obtain ⟨a, b, c, d⟩ := HHD.out nq
      rw [hw1]; exact ⟨a, b, c, d⟩)
    clear k0 k1 b0 n0 w0 g2 hw1 HGD HHD HH HG
    go_wp2_with fail
    go_quiet (fail)
    go_wp2_with fail
    go_ret
    exact ⟨by rw [HE.out]; rfl, HH1.out _, HG1.out _⟩
  · have e9 : (decide (nu < ak) && ((decide (se ≤ now) && decide (wait ≤ now - se)) || decide (3 ≤ ak - nu))) = false := by simp; omega
    have HE := Lib.hid e9
    have hd1 : decide (ak ≤ nu) = false := by simpa using h1
    have hd2 : decide (se ≤ now) = true := by simpa using h2
    have hwr : IntKind.u64.wrap (now - se) = now - se := IntWalk.u64_in _ (by omega)
    have hd3 : decide (wait ≤ now - se) = false := by simpa using h3
    have hd4 : decide (3 ≤ ak - nu) = false := by simpa using h4
    have hwr2 : IntKind.u64.wrap (ak - nu) = ak - nu := IntWalk.u64_in _ (by omega)
    clear e9
    go_quiet (fail)
    go_wp2_with fail
    obtain ⟨w1, hw1⟩ : ∃ w1, w1 = W.drewN nq := ⟨_, rfl⟩
    rw [← hw1]
    have k0' : w1.cell? ⟨w.heap.size, 0, none⟩ = some (.int .u64 nu) := by rw [hw1]; exact k0
    have k1' : w1.cell? ⟨w.heap.size, 1, none⟩ = some (.int .u64 se) := by rw [hw1]; exact k1
    have b0' : w1.cell? ⟨Bl, 0, none⟩ = some (.pointer (some ⟨g, 0, none⟩)) := by rw [hw1]; exact b0
    have n0' : w1.cell? ⟨Bn, 0, none⟩ = some (.int .u64 now) := by rw [hw1]; exact n0
    have w0' : w1.cell? ⟨Bw, 0, none⟩ = some (.int .u64 wait) := by rw [hw1]; exact w0
    have g2' : w1.cell? ⟨g, 2, none⟩ = some (.int .u64 ak) := by rw [hw1]; exact g2
    have HG1 := Lib.hid (show ∀ n, w.grownBy (w1.drewN n) none from fun n => by rw [hw1]; exact gb_drewN (HGD.out nq) n)
    have HH1 := Lib.hid (show ∀ n, LoC g Bl Bn Bw ak now wait (k + 1) (w1.drewN n) from fun n => by
      obtain ⟨a, b, c, d⟩ := HHD.out nq
      rw [hw1]; exact ⟨a, b, c, d⟩)
    clear k0 k1 b0 n0 w0 g2 hw1 HGD HHD HH HG
    go_wp2_with fail
    go_quiet (fail)
    go_wp2_with fail
    go_ret
    exact ⟨by rw [HE.out]; rfl, HH1.out _, HG1.out _⟩
  · have e9 : (decide (nu < ak) && ((decide (se ≤ now) && decide (wait ≤ now - se)) || decide (3 ≤ ak - nu))) = true := by simp; omega
    have HE := Lib.hid e9
    have hd1 : decide (ak ≤ nu) = false := by simpa using h1
    have hd2 : decide (se ≤ now) = false := by simpa using h2
    have hd4 : decide (3 ≤ ak - nu) = true := by simpa using h4
    have hwr2 : IntKind.u64.wrap (ak - nu) = ak - nu := IntWalk.u64_in _ (by omega)
    clear e9
    go_quiet (fail)
    go_wp2_with fail
    obtain ⟨w1, hw1⟩ : ∃ w1, w1 = W.drewN nq := ⟨_, rfl⟩
    rw [← hw1]
    have k0' : w1.cell? ⟨w.heap.size, 0, none⟩ = some (.int .u64 nu) := by rw [hw1]; exact k0
    have k1' : w1.cell? ⟨w.heap.size, 1, none⟩ = some (.int .u64 se) := by rw [hw1]; exact k1
    have b0' : w1.cell? ⟨Bl, 0, none⟩ = some (.pointer (some ⟨g, 0, none⟩)) := by rw [hw1]; exact b0
    have n0' : w1.cell? ⟨Bn, 0, none⟩ = some (.int .u64 now) := by rw [hw1]; exact n0
    have w0' : w1.cell? ⟨Bw, 0, none⟩ = some (.int .u64 wait) := by rw [hw1]; exact w0
    have g2' : w1.cell? ⟨g, 2, none⟩ = some (.int .u64 ak) := by rw [hw1]; exact g2
    have HG1 := Lib.hid (show ∀ n, w.grownBy (w1.drewN n) none from fun n => by rw [hw1]; exact gb_drewN (HGD.out nq) n)
    have HH1 := Lib.hid (show ∀ n, LoC g Bl Bn Bw ak now wait (k + 1) (w1.drewN n) from fun n => by
      obtain ⟨a, b, c, d⟩ := HHD.out nq
      rw [hw1]; exact ⟨a, b, c, d⟩)
    clear k0 k1 b0 n0 w0 g2 hw1 HGD HHD HH HG
    go_wp2_with fail
    go_quiet (fail)
    go_wp2_with fail
    go_ret
    exact ⟨by rw [HE.out]; rfl, HH1.out _, HG1.out _⟩
  · have e9 : (decide (nu < ak) && ((decide (se ≤ now) && decide (wait ≤ now - se)) || decide (3 ≤ ak - nu))) = false := by simp; omega
    have HE := Lib.hid e9
    have hd1 : decide (ak ≤ nu) = false := by simpa using h1
    have hd2 : decide (se ≤ now) = false := by simpa using h2
    have hd4 : decide (3 ≤ ak - nu) = false := by simpa using h4
    have hwr2 : IntKind.u64.wrap (ak - nu) = ak - nu := IntWalk.u64_in _ (by omega)
    clear e9
    go_quiet (fail)
    go_wp2_with fail
    obtain ⟨w1, hw1⟩ : ∃ w1, w1 = W.drewN nq := ⟨_, rfl⟩
    rw [← hw1]
    have k0' : w1.cell? ⟨w.heap.size, 0, none⟩ = some (.int .u64 nu) := by rw [hw1]; exact k0
    have k1' : w1.cell? ⟨w.heap.size, 1, none⟩ = some (.int .u64 se) := by rw [hw1]; exact k1
    have b0' : w1.cell? ⟨Bl, 0, none⟩ = some (.pointer (some ⟨g, 0, none⟩)) := by rw [hw1]; exact b0
    have n0' : w1.cell? ⟨Bn, 0, none⟩ = some (.int .u64 now) := by rw [hw1]; exact n0
    have w0' : w1.cell? ⟨Bw, 0, none⟩ = some (.int .u64 wait) := by rw [hw1]; exact w0
    have g2' : w1.cell? ⟨g, 2, none⟩ = some (.int .u64 ak) := by rw [hw1]; exact g2
    have HG1 := Lib.hid (show ∀ n, w.grownBy (w1.drewN n) none from fun n => by rw [hw1]; exact gb_drewN (HGD.out nq) n)
    have HH1 := Lib.hid (show ∀ n, LoC g Bl Bn Bw ak now wait (k + 1) (w1.drewN n) from fun n => by
      obtain ⟨a, b, c, d⟩ := HHD.out nq
      rw [hw1]; exact ⟨a, b, c, d⟩)
    clear k0 k1 b0 n0 w0 g2 hw1 HGD HHD HH HG
    go_wp2_with fail
    go_quiet (fail)
    go_wp2_with fail
    go_ret
    exact ⟨by rw [HE.out]; rfl, HH1.out _, HG1.out _⟩

/-- What Lost and Clear answer. -/
structure GoneTo (w w' : World) (base g : Nat) (A : Option Addr) (out : List PK) (l' : LG) (A1 : Option Addr) (c1 : Nat) : Prop where
  own : OwnP w' w.heap.size A1 c1 out
  to : LTo0 w w' base g A l'
theorem Led.some_ {w : World} {base g : Nat} {a : Addr} {c : Nat} {l : LG} (h : Led w base g (some a) c l) : ∃ gp, a = ⟨gp, 0, none⟩ ∧ gp < w.heap.size := by
  rcases h.own.2 with ⟨h1, _⟩ | ⟨g', cap, cur, hv, _, hh, _⟩
  · injection h1 with h1; cases h1
  · injection hv with h1; injection h1 with h1; exact ⟨g', h1, Blk.lt hh⟩
theorem LLost_nil (now wait : Int) (w : World) : Calls Try.prog 9 #[.pointer none, .int .u64 now, .int .u64 wait] w fun r w' => r = .returned (.slice none 0 0) ∧ Below w.heap.size w w' := by
  have HN : ∀ fv W, Calls Try.prog 25 #[.pointer none, fv] W fun r w' => r = .returned (.slice none 0 0) ∧ W = w' := by
    intro fv W
    go_enter Try.func25, Try.ntmps25
    go_wp2_with fail
    go_ret
    exact ⟨rfl, rfl⟩
  go_enter Try.func9, Try.ntmps9
  go_wp2_with fail
  refine (HN _ _).mono ?_
  rintro e w' ⟨rfl, rfl⟩
  go_wp2_with fail
  go_ret
  exact ⟨rfl, (((Below.refl _ _).alloc (Nat.le_refl _) _).alloc (by simp) _).alloc (by simp; omega) _⟩
theorem LClear_nil (w : World) : Calls Try.prog 11 #[.pointer none] w fun r w' => r = .returned (.slice none 0 0) ∧ Below w.heap.size w w' := by
  have HN : ∀ fv W, Calls Try.prog 25 #[.pointer none, fv] W fun r w' => r = .returned (.slice none 0 0) ∧ W = w' := by
    intro fv W
    go_enter Try.func25, Try.ntmps25
    go_wp2_with fail
    go_ret
    exact ⟨rfl, rfl⟩
  go_enter Try.func11, Try.ntmps11
  go_wp2_with fail
  refine (HN _ _).mono ?_
  rintro e w' ⟨rfl, rfl⟩
  go_wp2_with fail
  go_ret
  exact ⟨rfl, Below.refl _ _⟩
set_option maxHeartbeats 1000000 in
theorem LLost_any (base g : Nat) (A : Option Addr) (c : Nat) (l : LG) (now wait : Int) (w : World) (h : Led w base g A c l) (ok : LgOk l) (hn : 0 ≤ now ∧ now < 18446744073709551616) (hl : l.op.length ≤ 1000000) :
    Calls Try.prog 9 #[.pointer (some ⟨g, 0, none⟩), .int .u64 now, .int .u64 wait] w fun r w' => ∃ A1 c1, r = .returned (.slice A1 (l.op.filter (lostP l now wait)).length c1) ∧ GoneTo w w' base g A (l.op.filter (lostP l now wait)) (lLost l now wait) A1 c1 := by
  obtain ⟨W, hW⟩ : ∃ W, W = ((w.alloc (.cells #[.pointer (some ⟨g, 0, none⟩)] 24)).alloc (.cells #[.int .u64 now] 28)).alloc (.cells #[.int .u64 wait] 28) := ⟨_, rfl⟩
  have b1 : Below w.heap.size w W := by rw [hW]; exact (((Below.refl _ _).alloc (Nat.le_refl _) _).alloc (by simp) _).alloc (by simp; omega) _
  have L1 := h.below b1
  have z := h.lt
  have zz : W.heap.size = w.heap.size + 3 := by rw [hW]; simp
  have K1 : Blk W w.heap.size 24 #[.pointer (some ⟨g, 0, none⟩)] := by rw [hW]; exact ((Blk.new w _ _).alloc _).alloc _
  have K2 : Blk W (w.heap.size + 1) 28 #[.int .u64 now] := by
    rw [hW]
    have := Blk.new (w.alloc (.cells #[.pointer (some ⟨g, 0, none⟩)] 24)) 28 #[.int .u64 now]
    rw [World.size_alloc] at this
    exact this.alloc _
  have K3 : Blk W (w.heap.size + 1 + 1) 28 #[.int .u64 wait] := by
    rw [hW]
    have := Blk.new ((w.alloc (.cells #[.pointer (some ⟨g, 0, none⟩)] 24)).alloc (.cells #[.int .u64 now] 28)) 28 #[.int .u64 wait]
    rw [World.size_alloc, World.size_alloc] at this
    exact this
  have C0 : LoC g w.heap.size (w.heap.size + 1) (w.heap.size + 1 + 1) l.ak now wait 0 W := ⟨K1, K2, K3, _, L1.blk, rfl⟩
  have c0 := K1.cell 0
  simp at c0
  have hpk := ok.pk
  have hak := ok.ak1
  have HF := Lib.hid (show Frm w W (LedS g A) from Frm.of_below b1)
  have HRM : ∀ w0, w0 = W → Calls Try.prog 25 #[.pointer (some ⟨g, 0, none⟩), .func (.func 27) #[] #[.pointer (some ⟨w.heap.size, 0, none⟩), .pointer (some ⟨w.heap.size + 1, 0, none⟩), .pointer (some ⟨w.heap.size + 1 + 1, 0, none⟩)]] w0 fun r w' => ∃ A1 c1, r = .returned (.slice A1 (l.op.filter (lostP l now wait)).length c1) ∧ GoneTo w w' base g A (l.op.filter (lostP l now wait)) (lLost l now wait) A1 c1 := by
    rintro w0 rfl
    rcases A with _ | a
    · refine (remove_nil _ _ base g c l w0 L1).mono ?_
      rintro e w4 ⟨rfl, ho, h4, g4⟩
      have e1 : l.op.filter (lostP l now wait) = [] := by rw [ho]; rfl
      have e2 : lLost l now wait = l := by unfold lLost; rw [ho]; obtain ⟨op, nx, ak, hs⟩ := l; simp only at ho; subst ho; rfl
      refine ⟨none, 0, by rw [e1]; rfl, ⟨by rw [e1]; exact OwnF.nil _ _, ⟨⟨none, 0, by rw [e2]; exact h4, fun _ h => h⟩, HF.out.grown g4 (fun r hr => by injection hr with hr; exact .inr (.inl hr.symm))⟩⟩⟩
    · obtain ⟨gp, rfl, hgp⟩ := h.some_
      have hgg : gp ≠ g := h.ne gp (by simp [Value.ownBlock])
      refine (remove_some 27 _ (lostP l now wait) (LoC g w.heap.size (w.heap.size + 1) (w.heap.size + 1 + 1) l.ak now wait) none base g gp c l w0 L1 ⟨enters_of Try.func27 (by kernel_rfl) rfl, ?_, ?_, fun r hr => by cases hr⟩ (by simp) C0 hl).mono ?_
      · intro k p W1 hk hC
        have hp := (hpk p (List.mem_of_getElem? hk)).1
        unfold PkOk at hp
        exact lost1_any g _ _ _ l.ak now wait k p W1 hC ⟨by omega, by omega⟩ hak hn
      · intro k W1 W2 hC hf
        exact hC.frm hf (by omega) (by omega) (by omega) (by omega)
      · rintro e w4 ⟨A1, c1, rfl, ho, h4, f4⟩
        refine ⟨A1, c1, rfl, ⟨OwnP.base_le ho (by omega), ⟨⟨some ⟨gp, 0, none⟩, c, h4, fun _ h => h⟩, HF.out.trans (f4.mono (fun b _ hb => ?_))⟩⟩⟩
        rcases hb with h1 | h1 | h1
        · exact .inl h1
        · exact .inr (by simp [Value.ownBlock, h1])
        · cases h1
  have HR := Lib.hid HRM
  clear HRM h L1 K1 K2 K3 C0 hpk b1
  generalize (l.op.filter (lostP l now wait)) = OUT at *
  go_enter Try.func9, Try.ntmps9
  go_wp2_with fail
  refine (HR.out _ hW.symm).mono ?_
  rintro e w' ⟨A1, c1, rfl, hG⟩
  have HG := Lib.hid hG
  clear hG hW c0
  go_wp2_with fail
  go_ret
  exact ⟨A1, c1, rfl, HG.out⟩
end Go.Proofs.Ytefhbiocddgijaa
