/-
  within; Ack.
-/
import Derived.Test.YtefhbiocddgijaaLossE
import Derived.Test.YtefhbiocddgijaaSortR
namespace Go.Proofs.Ytefhbiocddgijaa
open Go.RowKit
set_option linter.unusedVariables false
set_option linter.unusedSimpArgs false

theorem dropTo_dropTo (m n : Int) (h : m ≤ n) : ∀ S : List (Int × Int), dropTo n (dropTo m S) = dropTo n S
  | [] => rfl
  | x :: S => by
    by_cases h1 : x.2 < m
    · have h2 : x.2 < n := by omega
      have e1 : dropTo m (x :: S) = dropTo m S := by unfold dropTo; rw [List.dropWhile_cons, if_pos (by simpa using h1)]
      have e2 : dropTo n (x :: S) = dropTo n S := by unfold dropTo; rw [List.dropWhile_cons, if_pos (by simpa using h2)]
      rw [e1, e2, dropTo_dropTo m n h S]
    · have e1 : dropTo m (x :: S) = x :: S := by unfold dropTo; rw [List.dropWhile_cons, if_neg (by simpa using h1)]
      rw [e1]
theorem hitN_any (n : Int) : ∀ S : List (Int × Int), S.Pairwise (fun a b => a.1 ≤ b.1) → hitN n S = S.any (fun x => decide (x.1 ≤ n) && decide (n ≤ x.2))
  | [], _ => rfl
  | x :: S, h => by
    rw [List.pairwise_cons] at h
    by_cases h1 : x.2 < n
    · have e2 : dropTo n (x :: S) = dropTo n S := by unfold dropTo; rw [List.dropWhile_cons, if_pos (by simpa using h1)]
      have e3 : hitN n (x :: S) = hitN n S := by unfold hitN; rw [e2]
      rw [e3, hitN_any n S h.2, List.any_cons]
      have : decide (n ≤ x.2) = false := by simp; omega
      rw [this]; simp
    · have e2 : dropTo n (x :: S) = x :: S := by unfold dropTo; rw [List.dropWhile_cons, if_neg (by simpa using h1)]
      have e3 : hitN n (x :: S) = decide (x.1 ≤ n) := by unfold hitN; rw [e2]
      rw [e3, List.any_cons]
      by_cases h2 : x.1 ≤ n
      · have : decide (n ≤ x.2) = true := by simp; omega
        simp [h2, this]
      · have : S.any (fun x => decide (x.1 ≤ n) && decide (n ≤ x.2)) = false := by
          rw [List.any_eq_false]
          intro y hy
          have := h.1 y hy
          simp; omega
        rw [this]; simp [h2]
theorem inR_perm {r S : List (Int × Int)} (h : S.Perm r) (p : PK) : inR S p = inR r p := by
  unfold inR
  rw [Bool.eq_iff_iff, List.any_eq_true, List.any_eq_true]
  exact ⟨fun ⟨x, hx, hp⟩ => ⟨x, h.mem_iff.1 hx, hp⟩, fun ⟨x, hx, hp⟩ => ⟨x, h.mem_iff.2 hx, hp⟩⟩
theorem hitN_inR {r S : List (Int × Int)} (h : S.Perm r) (hs : S.Pairwise (fun a b => a.1 ≤ b.1)) (p : PK) : hitN p.nu S = inR r p := by
  rw [← inR_perm h]
  exact hitN_any _ _ hs

/-- What within's closure keeps. -/
def WiC (op : List PK) (S : List (Int × Int)) (X Y : Nat) (k : Nat) (w : World) : Prop := ∃ l', RestAt w X Y l' ∧ ∀ n, (∀ j q, j < k → op[j]? = some q → q.nu ≤ n) → dropTo n l' = dropTo n S
theorem within2_goes (op : List PK) (hup : op.Pairwise (fun a b => a.nu < b.nu)) (r S : List (Int × Int)) (hp : S.Perm r) (hs : S.Pairwise (fun a b => a.1 ≤ b.1)) (X Y N0 gp : Nat) (hX : X < N0 ∧ X ≠ gp) (hY : Y < N0 ∧ Y ≠ gp) :
    Goes 39 #[.pointer (some ⟨X, 0, none⟩)] op (inR r) (WiC op S X Y) (some X) N0 gp := by
  refine ⟨enters_of Try.func39 (by kernel_rfl) rfl, fun k p W hk ⟨l', h1, h2⟩ => ?_, fun k W W' ⟨l', h1, h2⟩ hf => ⟨l', h1.frm hf (by omega) (by omega), h2⟩, fun r hr => by injection hr with hr; subst hr; exact hX⟩
  have hle : ∀ j q, j < k → op[j]? = some q → q.nu ≤ p.nu := fun j q hj hq => by
    have hkl : k < op.length := by
      rcases Nat.lt_or_ge k op.length with h | h
      · exact h
      · rw [List.getElem?_eq_none h] at hk; cases hk
    have := (List.pairwise_iff_getElem.1 hup) j k (by omega) hkl hj
    rw [List.getElem?_eq_getElem (by omega)] at hk hq
    injection hk with hk; injection hq with hq
    subst hk hq
    omega
  have e1 : hitN p.nu l' = inR r p := by
    rw [← hitN_inR hp hs p]
    unfold hitN
    rw [h2 p.nu hle]
  refine (within2_any X Y l' p W h1).mono ?_
  rintro e w' ⟨rfl, h3, h4⟩
  refine ⟨by rw [e1], ⟨_, h3, fun n hn => ?_⟩, h4⟩
  have hpn : p.nu ≤ n := hn k p (by omega) hk
  rw [dropTo_dropTo _ _ hpn]
  exact h2 n (fun j q hj hq => hn j q (by omega) hq)

/-- within(r): its closure, ready. -/
theorem within_any (B : Option Addr) (d : Nat) (r : List (Int × Int)) (w : World) (hr : RdG w B r) (hl : r.length ≤ 8796093022207) :
    Calls Try.prog 26 #[.slice B r.length d] w fun e w' => ∃ X Y S, e = .returned (.func (.func 39) #[] #[.pointer (some ⟨X, 0, none⟩)]) ∧ S.Perm r ∧ S.Pairwise (fun a b => a.1 ≤ b.1) ∧ RestAt w' X Y S ∧ w.heap.size ≤ X ∧ w.heap.size ≤ Y ∧ Y < w'.heap.size ∧ Below w.heap.size w w' := by
  have H := Lib.hid hr
  clear hr
  go_enter Try.func26, Try.ntmps26
  go_wp2_with fail
  refine (values_any B r.length d w).mono ?_
  rintro e w1 ⟨rfl, rfl⟩
  obtain ⟨W1, hW1⟩ : ∃ W1, W1 = w.alloc (.cells #[.slice B r.length d] 33) := ⟨_, rfl⟩
  have hb1 : Below w.heap.size w W1 := by rw [hW1]; exact (Below.refl _ _).alloc (Nat.le_refl _) _
  have K1 : Blk W1 w.heap.size 33 #[.slice B r.length d] := by rw [hW1]; exact Blk.new w _ _
  have hr1 : RdG W1 B r := by rw [hW1]; exact H.out.alloc _
  rw [← hW1]
  clear hW1
  have HS := Lib.hid (SortedFunc_any w.heap.size B d r hl W1 K1.lt (K1.cell 0) hr1)
  clear K1 hr1
  go_wp2_with fail
  refine HS.out.mono ?_
  rintro e w2 ⟨A', c', S, rfl, hp, hs, ho, hb2⟩
  have hz1 := hb1.size
  have hz2 := hb2.size
  have HO := Lib.hid ho
  have hbb := Lib.hid (hb1.trans (hb2.mono hz1))
  have HP := Lib.hid hp
  have HSS := Lib.hid hs
  clear ho hb2 hp hs HS hb1
  go_wp2_with fail
  go_ret
  have hcap : S.length ≤ c' ∧ c' ≤ 9223372036854775807 ∧ ((A' = none) ∨ ∃ b, A' = some ⟨b, 0, none⟩ ∧ W1.heap.size ≤ b ∧ b < w2.heap.size) := by
    rcases HO.out.2 with ⟨h1, h2⟩ | ⟨g, cap, cur, hv, hb, hh, h3, h4, _⟩
    · injection h1 with e1 e2 e3
      exact ⟨by omega, by omega, .inl e1⟩
    · injection hv with e1 e2 e3
      subst e3
      exact ⟨h3, by unfold maxLen at h4; omega, .inr ⟨g, e1, hb, Blk.lt hh⟩⟩
  have hR : Reads (w2.alloc (.cells #[.slice A' S.length c'] 33)) w2.heap.size 2 A' S.length (RgV S) := Reads.alloc (OwnV.reads HO.out) (Nat.le_refl _) _
  rcases hcap.2.2 with h0 | ⟨b, h0, h1, h2⟩
  · exact ⟨w2.heap.size, w2.heap.size, S, rfl, HP.out, HSS.out, ⟨A', c', Blk.new w2 _ _, hR, hcap.1, hcap.2.1, fun a ha => by rw [h0] at ha; cases ha⟩, by omega, by omega, by simp, hbb.out.alloc (by omega) _⟩
  · exact ⟨w2.heap.size, b, S, rfl, HP.out, HSS.out, ⟨A', c', Blk.new w2 _ _, hR, hcap.1, hcap.2.1, fun a ha => by rw [h0] at ha; injection ha with ha; rw [← ha]⟩, by omega, by omega, by simp; omega, hbb.out.alloc (by omega) _⟩
end Go.Proofs.Ytefhbiocddgijaa
