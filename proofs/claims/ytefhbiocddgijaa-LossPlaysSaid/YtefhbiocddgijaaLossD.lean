/-
  The closure of within: is a packet's number in one of the ranges?
-/
import Derived.Test.YtefhbiocddgijaaLossC
namespace Go.Proofs.Ytefhbiocddgijaa
open Go.RowKit
set_option linter.unusedVariables false
set_option linter.unusedSimpArgs false

def dropTo (n : Int) (l : List (Int × Int)) : List (Int × Int) := l.dropWhile (fun x => decide (x.2 < n))
def hitN (n : Int) (l : List (Int × Int)) : Bool := match dropTo n l with
  | [] => false
  | x :: _ => decide (x.1 ≤ n)
/-- The variable 'rest' at X, whose ranges lie in block Y. -/
def RestAt (w : World) (X Y : Nat) (l : List (Int × Int)) : Prop := ∃ A c, Blk w X 33 #[.slice A l.length c] ∧ Reads w X 2 A l.length (RgV l) ∧ l.length ≤ c ∧ c ≤ 9223372036854775807 ∧ (∀ a, A = some a → a.block = Y)
def restLen (w : World) (X : Nat) : Nat := match w.cell? ⟨X, 0, none⟩ with
  | some (.slice _ n _) => n
  | _ => 0
theorem RestAt.len {w : World} {X Y : Nat} {l : List (Int × Int)} (h : RestAt w X Y l) : restLen w X = l.length := by
  obtain ⟨A, c, hb, _⟩ := h
  unfold restLen
  rw [hb.cell 0]
  rfl
theorem RestAt.drewN {w : World} {X Y : Nat} {l : List (Int × Int)} (h : RestAt w X Y l) (n : Nat) : RestAt (w.drewN n) X Y l := by
  obtain ⟨A, c, h1, h2, h3⟩ := h
  exact ⟨A, c, h1, h2, h3⟩
theorem Reads.inY {w w' : World} {B size n Y : Nat} {A : Option Addr} {xs : List Value} (h : Reads w B size A n xs) (hA : ∀ a, A = some a → a.block = Y) (hk : w'.heap[Y]? = w.heap[Y]?) : Reads w' B size A n xs :=
  ⟨h.1, fun hn => by
    obtain ⟨ad, e, hb, hc⟩ := h.2 hn
    refine ⟨ad, e, hb, fun j u hu => ?_⟩
    rw [← hc j u hu]
    exact World.cell?_of_block (by rw [block_of_add, hA ad e]; exact hk)⟩
theorem RestAt.frm {w w' : World} {X Y : Nat} {l : List (Int × Int)} {S : Nat → Prop} (h : RestAt w X Y l) (hf : Frm w w' S) (hX : ¬ S X) (hY : ¬ S Y) : RestAt w' X Y l := by
  obtain ⟨A, c, h1, h2, h3, h4, h5⟩ := h
  refine ⟨A, c, hf.keep h1 hX, ?_, h3, h4, h5⟩
  rcases Nat.lt_or_ge Y w.heap.size with hlt | hge
  · exact Reads.inY h2 h5 (hf.blk Y hlt hY)
  · refine ⟨h2.1, fun hn => ?_⟩
    obtain ⟨ad, e, hb, _⟩ := h2.2 hn
    have := h5 ad e
    have := h1.lt
    omega

theorem within2_any (X Y : Nat) (l : List (Int × Int)) (p : PK) (w : World) (h : RestAt w X Y l) :
    Calls Try.prog 39 #[.agg #[.int .u64 p.nu, .int .u64 p.se, .int .i64 p.si, .bool p.aq], .pointer (some ⟨X, 0, none⟩)] w fun e w' => e = .returned (.bool (hitN p.nu l)) ∧ RestAt w' X Y (dropTo p.nu l) ∧ w.grownBy w' (some X) := by
  obtain ⟨nu, se, si, aq⟩ := p
  simp only
  have hX : X < w.heap.size := by obtain ⟨A, c, h1, _⟩ := h; exact h1.lt
  have H := Lib.hid h
  clear h
  go_enter Try.func39, Try.ntmps39
  go_wp2_with fail
  have HW : RestAt (w.alloc (.cells #[.int .u64 nu, .int .u64 se, .int .i64 si, .bool aq] 49)) X Y l := H.out.frm (S := fun _ => False) ((Frm.refl _ _).alloc _) id id
  have KW := Blk.new w 49 #[.int .u64 nu, .int .u64 se, .int .i64 si, .bool aq]
  have GW : w.grownBy (w.alloc (.cells #[.int .u64 nu, .int .u64 se, .int .i64 si, .bool aq] 49)) (some X) := World.grownBy_alloc w _ _
  go_loopw [15] (fun _ wr => ∃ l', RestAt wr X Y l' ∧ dropTo nu l = dropTo nu l' ∧ Blk wr w.heap.size 49 #[.int .u64 nu, .int .u64 se, .int .i64 si, .bool aq] ∧ w.grownBy wr (some X)) (fun _ wr => restLen wr X)
  case atStart => exact ⟨l, HW, rfl, KW, GW⟩
  case round =>
    obtain ⟨l', hr, hd, kb, gb⟩ := hrel
    have hlen := hr.len
    clear HW KW GW H
    have k0 := kb.cell 0
    simp at k0
    have zk := kb.lt
    obtain ⟨A, c, h1, h2, h3, h4, h5⟩ := hr
    have c0 := h1.cell 0
    have f0 := h1.frozen 0
    have z1 := h1.lt
    simp at c0
    rcases l' with _ | ⟨x, l'⟩
    · have HD := Lib.hid hd
      have HK := Lib.hid (show RestAt wr X Y [] from ⟨A, c, h1, h2, h3, h4, h5⟩)
      have HG := Lib.hid gb
      have e9 : hitN nu l = false := by unfold hitN; rw [hd]; rfl
      have HE := Lib.hid e9
      clear hd gb e9 h1 h2 h3 kb hlen
      simp only [List.length_nil] at c0
      go_wp2_with fail
      go_quiet (fail)
      go_wp2_with fail
      obtain ⟨w1, hw1⟩ : ∃ w1, w1 = wr.drewN nq := ⟨_, rfl⟩
      rw [← hw1]
      have c1 : w1.cell? ⟨X, 0, none⟩ = some (.slice A 0 c) := by rw [hw1]; exact c0
      have HK1 := Lib.hid (show RestAt w1 X Y [] by rw [hw1]; exact HK.out.drewN _)
      have HG1 := Lib.hid (show w.grownBy w1 (some X) by rw [hw1]; exact gb_drewN HG.out _)
      clear c0 f0 k0 hw1 HK HG z1 zk
      go_quiet (fail)
      go_wp2_with fail
      go_ret
      exact ⟨by rw [HE.out]; rfl, by rw [HD.out]; exact HK1.out.drewN _, gb_drewN HG1.out _⟩
    · obtain ⟨xf, xt⟩ := x
      obtain ⟨ad, rfl, hb, hcell⟩ := h2.2 (by simp)
      obtain ⟨b, off, spot⟩ := ad
      have q0 := hcell 0 _ (RgV_get0 (l := (xf, xt) :: l') (i := 0) rfl)
      have hs : spot = none := by simpa [Addr.add] using World.cell?_spot q0
      subst hs
      have q1 := hcell 1 _ (RgV_get1 (l := (xf, xt) :: l') (i := 0) rfl)
      simp [Addr.add] at q0 q1
      have zb : b < wr.heap.size := Nat.lt_trans hb z1
      simp only [List.length_cons] at c0 h3
      by_cases hx : xt < nu
      · have hd2 : dropTo nu l = dropTo nu l' := by rw [hd]; unfold dropTo; rw [List.dropWhile_cons, if_pos (by simpa using hx)]
        have hb2 := (h2.cut (k := 1) (cap := c) (by simp) (by simpa using h3))
        have HD := Lib.hid hd2
        have HG := Lib.hid gb
        have H1 := Lib.hid h1
        have H2 := Lib.hid hb2
        have HKB := Lib.hid kb
        have HL := Lib.hid hlen
        clear hd hd2 gb h1 h2 kb hcell hb2 hlen
        have hc2 : ((l'.length : Int) + 1 > 0) := by omega
        go_wp2_with fail
        go_quiet (fail)
        go_wp2_with fail
        go_roundw
        case rel =>
          refine ⟨l', ⟨(if c = 1 then some ⟨b, off, none⟩ else some ⟨b, off + 2, none⟩), c - 1, ?_, ?_, by omega, by omega, fun a ha => ?_⟩, HD.out, ?_, ?_⟩
          · have := Blk.set_ (H1.out.drewN nq) 0 (.slice (if c = 1 then some ⟨b, off, none⟩ else some ⟨b, off + 2, none⟩) l'.length (c - 1))
            simpa using this
          · have h9 := H2.out
            have e7 : (if c = 1 then some (⟨b, off, none⟩ : Addr) else (some ⟨b, off, none⟩ : Option Addr).map (·.add (1 * 2))) = (if c = 1 then some ⟨b, off, none⟩ else some ⟨b, off + 2, none⟩) := by simp [Addr.add]
            rw [e7, show ((xf, xt) :: l').length - 1 = l'.length by simp, show (RgV ((xf, xt) :: l')).drop (1 * 2) = RgV l' from rfl] at h9
            exact (h9.drewN nq).setCell (p := ⟨X, 0, none⟩) (Nat.le_refl _) _
          · have hbY : b = Y := h5 _ rfl
            split at ha
            · injection ha with ha; rw [← ha]; exact hbY
            · injection ha with ha; rw [← ha]; exact hbY
          · exact (HKB.out.drewN nq).far (by simp; omega) _
          · exact gb_set (gb_drewN HG.out _) rfl _
        case measure =>
          have h8 := HL.out
          simp only [List.length_cons] at h8
          rw [h8]
          unfold restLen
          rw [(Blk.set_ (H1.out.drewN nq) 0 (.slice (if c = 1 then some ⟨b, off, none⟩ else some ⟨b, off + 2, none⟩) l'.length (c - 1))).cell 0]
          simp
      · have hd1 : decide (xt < nu) = false := by simpa using hx
        have e9 : hitN nu l = decide (xf ≤ nu) := by
          unfold hitN; rw [hd]; unfold dropTo; rw [List.dropWhile_cons, if_neg (by simpa using hx)]
        have e8 : dropTo nu l = (xf, xt) :: l' := by rw [hd]; unfold dropTo; rw [List.dropWhile_cons, if_neg (by simpa using hx)]
        have HD := Lib.hid e8
        have HE := Lib.hid e9
        have HK := Lib.hid (show RestAt wr X Y ((xf, xt) :: l') from ⟨_, c, h1, h2, h3, h4, h5⟩)
        have HG := Lib.hid gb
        clear hd e8 e9 gb h1 h2 kb hcell hlen
        have hc2 : ((l'.length : Int) + 1 > 0) := by omega
        go_wp2_with fail
        go_quiet (fail)
        go_wp2_with fail
        obtain ⟨w1, hw1⟩ : ∃ w1, w1 = wr.drewN nq := ⟨_, rfl⟩
        rw [← hw1]
        have c1 : w1.cell? ⟨X, 0, none⟩ = some (.slice (some ⟨b, off, none⟩) (l'.length + 1) c) := by rw [hw1]; exact c0
        have r0 : w1.cell? ⟨b, off, none⟩ = some (.int .u64 xf) := by rw [hw1]; exact q0
        have r1 : w1.cell? ⟨w.heap.size, 0, none⟩ = some (.int .u64 nu) := by rw [hw1]; exact k0
        have HK1 := Lib.hid (show RestAt w1 X Y ((xf, xt) :: l') by rw [hw1]; exact HK.out.drewN _)
        have HG1 := Lib.hid (show w.grownBy w1 (some X) by rw [hw1]; exact gb_drewN HG.out _)
        clear c0 f0 k0 q0 q1 hw1 HK HG
        by_cases hy : xf ≤ nu
        · go_quiet (fail)
          go_wp2_with fail
          go_ret
          exact ⟨by rw [HE.out]; simp [hy], by rw [HD.out]; exact HK1.out.drewN _, gb_drewN HG1.out _⟩
        · have hd2 : decide (xf ≤ nu) = false := by simpa using hy
          go_quiet (fail)
          go_wp2_with fail
          go_ret
          exact ⟨by rw [HE.out]; simp [hy], by rw [HD.out]; exact HK1.out.drewN _, gb_drewN HG1.out _⟩
end Go.Proofs.Ytefhbiocddgijaa
