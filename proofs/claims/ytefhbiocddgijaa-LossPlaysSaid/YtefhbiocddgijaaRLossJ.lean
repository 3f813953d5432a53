/-
  LossPlays: the calls over both ledgers; what both say is alike.
-/
import Derived.Test.YtefhbiocddgijaaRLossI
namespace Go.Proofs.Ytefhbiocddgijaa
open Go.RowKit
set_option linter.unusedVariables false
set_option linter.unusedSimpArgs false
section
variable {no : Bool} {w wr w' : World} {ul ur : Nat} {pl px : Option Addr} {x : RG} {l : LG} {g : Nat} {A : Option Addr} {c y : Nat} {Ax : Option Addr} {cx : Nat}
theorem rk_mark {x : RG} (h : ∀ p ∈ x.op, 0 ≤ p.nu ∧ 0 ≤ p.se ∧ p.se ≤ 4611686018427387903) (G : RPk → Bool) : ∀ p ∈ x.op.map (markG G), 0 ≤ p.nu ∧ 0 ≤ p.se ∧ p.se ≤ 4611686018427387903 := by
  intro p hp
  obtain ⟨q, hq, rfl⟩ := List.mem_map.1 hp
  have := h q hq
  unfold markG
  split
  · exact this
  · exact this
theorem PP.ackR (h : PP no w wr ul ur pl px x l) (B : Option Addr) (d : Nat) (r : List (Int × Int)) (hr : RdG wr B r) (hB : ∀ a, B = some a → 0 < r.length → ur ≤ a.block) (hro : ∀ y ∈ r, y.2 < 18446744073709551616) (hl : x.op.length ≤ 1000000) (hrl : r.length ≤ 1000) :
    Calls Try.prog 7 #[.pointer px, .slice B r.length d] wr fun e w' => ∃ A1 c1, e = .returned (.tuple #[.slice A1 (outRn no x r).length c1, .int .i64 (ackRn no x r)]) ∧ AfR no w wr w' ul ur pl px (rAckn no x r) l (outRn no x r) A1 := by
  cases no with
  | true =>
    obtain ⟨rfl, rfl, rfl, rfl⟩ := h.nil rfl
    refine (rAck_nil B r.length d wr).mono ?_
    rintro e w' ⟨rfl, rfl⟩
    exact ⟨none, 0, rfl, h.topR, RdR.nil _ _, Frm.refl _ _⟩
  | false =>
    obtain ⟨g, A, c, y, Ax, cx, hy⟩ := h.yes rfl
    have e1 := hy.px
    subst e1
    refine (rAck_any w.heap.size y Ax cx x B d r wr hy.rl hl hr (by omega) (fun a ha hn hs => by have := hB a ha hn; have := hy.lor _ hs; omega)).mono ?_
    rintro e w' ⟨m, A1, c1, rfl, hT⟩
    have hT := hT.out
    by_cases hE : ackR x r = 0
    · obtain ⟨hm, ho, hR⟩ := hT.good hE
      have e1 : outRn false x r = x.op.filter (GA r) := if_pos hE
      have e2 : rAckn false x r = rAck x r := if_pos hE
      obtain ⟨hp, hf⟩ := h.toR hy (x' := rAck x r) (rk_mark h.rk _) (by
        have : ∀ (r : List (Int × Int)) (s : Int × Bool), (∀ y ∈ r, y.2 < 18446744073709551616) → s.1 < 18446744073709551616 → (r.foldl topStep s).1 < 18446744073709551616 := by
          intro r
          induction r with
          | nil => intro s _ hs; exact hs
          | cons z r ih =>
            intro s hz hs
            refine ih _ (fun q hq => hz q (by simp [hq])) ?_
            unfold topStep
            split
            · exact hz z (by simp)
            · exact hs
        exact this r _ hro h.rak) ⟨⟨Ax, cx, hR, fun b hb => .inl hb⟩, hT.fr⟩
      rw [e1, e2]
      subst hm
      exact ⟨A1, c1, rfl, hp, OwnF.reads ho, hf⟩
    · obtain ⟨hm, hR⟩ := hT.bad hE
      have e1 : outRn false x r = [] := if_neg hE
      have e2 : rAckn false x r = x := if_neg hE
      obtain ⟨hp, hf⟩ := h.toR hy (x' := x) h.rk h.rak ⟨⟨Ax, cx, hR, fun b hb => .inl hb⟩, hT.fr⟩
      rw [e1, e2]
      subst hm
      exact ⟨A1, c1, rfl, hp, RdR.nil _ _, hf⟩
theorem PP.lostL (h : PP no w wr ul ur pl px x l) (now wait : Int) (hn : 0 ≤ now ∧ now < 18446744073709551616) (hl : l.op.length ≤ 1000000) :
    Calls Try.prog 9 #[.pointer pl, .int .u64 now, .int .u64 wait] wr fun e w' => ∃ A1 c1, e = .returned (.slice A1 (l.op.filter (lostP l now wait)).length c1) ∧ AfL no w wr w' ul ur pl px x (lLost l now wait) (l.op.filter (lostP l now wait)) A1 c1 := by
  cases no with
  | true =>
    obtain ⟨rfl, rfl, rfl, rfl⟩ := h.nil rfl
    refine (LLost_nil now wait wr).mono ?_
    rintro e w' ⟨rfl, hb⟩
    exact ⟨none, 0, rfl, (h.below hb).topL, OwnF.nil _ _, Frm.of_below hb⟩
  | false =>
    obtain ⟨g, A, c, y, Ax, cx, hy⟩ := h.yes rfl
    have e1 := hy.pl
    subst e1
    refine (LLost_any w.heap.size g A c l now wait wr hy.led h.ok hn hl).mono ?_
    rintro e w' ⟨A1, c1, rfl, hT⟩
    obtain ⟨hp, hf⟩ := h.toL hy (lLost_ok now wait h.ok) hT.to.wide
    exact ⟨A1, c1, rfl, hp, hT.own, hf⟩
theorem PP.lostR (h : PP no w wr ul ur pl px x l) (now wait : Int) (hn : 0 ≤ now ∧ now < 18446744073709551616) (hl : x.op.length ≤ 1000000) :
    Calls Try.prog 10 #[.pointer px, .int .u64 now, .int .u64 wait] wr fun e w' => ∃ A1 c1, e = .returned (.slice A1 (x.op.filter (GL x now wait)).length c1) ∧ AfR no w wr w' ul ur pl px ⟨x.op.map (markG (GL x now wait)), x.nx, x.ak, x.hs⟩ l (x.op.filter (GL x now wait)) A1 := by
  cases no with
  | true =>
    obtain ⟨rfl, rfl, rfl, rfl⟩ := h.nil rfl
    refine (rLost_nil now wait wr).mono ?_
    rintro e w' ⟨rfl, rfl⟩
    exact ⟨none, 0, rfl, h.topR, RdR.nil _ _, Frm.refl _ _⟩
  | false =>
    obtain ⟨g, A, c, y, Ax, cx, hy⟩ := h.yes rfl
    have e1 := hy.px
    subst e1
    refine (rLost_any w.heap.size y Ax cx x now wait wr hy.rl hl (fun p hp => ⟨(h.rk p hp).1, (h.rk p hp).2.1⟩) h.rak hn).mono ?_
    rintro e w' ⟨m, A1, c1, rfl, hT⟩
    have hT := hT.out
    have hm := hT.len
    have ho := hT.out
    have hR := hT.led
    rw [List.take_length] at hm ho
    rw [marked_all _ _ (Nat.le_refl _)] at hR
    obtain ⟨hp, hf⟩ := h.toR hy (x' := ⟨x.op.map (markG (GL x now wait)), x.nx, x.ak, x.hs⟩) (rk_mark h.rk _) h.rak ⟨⟨Ax, cx, hR, fun b hb => .inl hb⟩, hT.fr⟩
    subst hm
    exact ⟨A1, c1, rfl, hp, OwnF.reads ho, hf⟩
theorem PP.clearL (h : PP no w wr ul ur pl px x l) (hl : l.op.length ≤ 1000000) :
    Calls Try.prog 11 #[.pointer pl] wr fun e w' => ∃ A1 c1, e = .returned (.slice A1 l.op.length c1) ∧ AfL no w wr w' ul ur pl px x ⟨[], l.nx, l.ak, l.hs⟩ l.op A1 c1 := by
  cases no with
  | true =>
    obtain ⟨rfl, rfl, rfl, rfl⟩ := h.nil rfl
    refine (LClear_nil wr).mono ?_
    rintro e w' ⟨rfl, hb⟩
    exact ⟨none, 0, rfl, (h.below hb).topL, OwnF.nil _ _, Frm.of_below hb⟩
  | false =>
    obtain ⟨g, A, c, y, Ax, cx, hy⟩ := h.yes rfl
    have e1 := hy.pl
    subst e1
    refine (LClear_any w.heap.size g A c l wr hy.led hl).mono ?_
    rintro e w' ⟨A1, c1, rfl, hT⟩
    obtain ⟨hp, hf⟩ := h.toL hy (l' := ⟨[], l.nx, l.ak, l.hs⟩) ⟨(fun _ hp => by cases hp), List.Pairwise.nil, h.ok.nx0, h.ok.nx1, h.ok.ak0, h.ok.ak1, h.ok.no⟩ hT.to.wide
    exact ⟨A1, c1, rfl, hp, hT.own, hf⟩
theorem rClear_nil (w : World) : Calls Try.prog 12 #[.pointer none] w fun r w' => r = .returned (.slice none 0 0) ∧ w = w' := by
  go_enter Try.func12, Try.ntmps12
  go_wp2_with fail
  refine (rOpen_nil w).mono ?_
  rintro e w1 ⟨rfl, rfl⟩
  go_wp2_with fail
  go_ret
  exact ⟨rfl, rfl⟩
theorem PP.clearR (h : PP no w wr ul ur pl px x l) (hl : x.op.length ≤ 1000000) :
    Calls Try.prog 12 #[.pointer px] wr fun e w' => ∃ A1 c1, e = .returned (.slice A1 (x.op.filter live).length c1) ∧ AfR no w wr w' ul ur pl px ⟨x.op.map mkR, x.nx, x.ak, x.hs⟩ l (x.op.filter live) A1 := by
  cases no with
  | true =>
    obtain ⟨rfl, rfl, rfl, rfl⟩ := h.nil rfl
    refine (rClear_nil wr).mono ?_
    rintro e w' ⟨rfl, rfl⟩
    exact ⟨none, 0, rfl, h.topR, RdR.nil _ _, Frm.refl _ _⟩
  | false =>
    obtain ⟨g, A, c, y, Ax, cx, hy⟩ := h.yes rfl
    have e1 := hy.px
    subst e1
    refine (rClear_any w.heap.size y Ax cx x wr hy.rl hl).mono ?_
    rintro e w' ⟨A1, c1, rfl, hT⟩
    obtain ⟨ho, hR, hF⟩ := hT.out
    obtain ⟨hp, hf⟩ := h.toR hy (x' := ⟨x.op.map mkR, x.nx, x.ak, x.hs⟩) (fun p hp => by obtain ⟨q, hq, rfl⟩ := List.mem_map.1 hp; exact h.rk q hq) h.rak ⟨⟨Ax, cx, hR, fun b hb => .inl hb⟩, hF⟩
    exact ⟨A1, c1, rfl, hp, OwnF.reads ho, hf⟩
def sendEn (no : Bool) (l : LG) (p : PK) : Int := if no then 6 else sendE l p
def lSendn (no : Bool) (l : LG) (p : PK) : LG := if no then l else lSend l p
def sendRn (no : Bool) (x : RG) (p : RPk) : Int := if no then 6 else sendR x p
def rSendn (no : Bool) (x : RG) (p : RPk) : RG := if no then x else rSend x p
theorem PP.sendL (h : PP no w wr ul ur pl px x l) (p : PK) (hp : 0 ≤ p.nu) (hs : 0 ≤ p.se) (hz : p.si ≤ 9223372036854775807) (hl : l.op.length ≤ 1000000) :
    Calls Try.prog 13 #[.pointer pl, .agg #[.int .u64 p.nu, .int .u64 p.se, .int .i64 p.si, .bool p.aq]] wr fun e w' => e = .returned (.int .i64 (sendEn no l p)) ∧ AfL no w wr w' ul ur pl px x (lSendn no l p) [] none 0 := by
  cases no with
  | true =>
    obtain ⟨rfl, rfl, rfl, rfl⟩ := h.nil rfl
    refine (LSend_nil p wr).mono ?_
    rintro e w' ⟨rfl, hb⟩
    exact ⟨rfl, (h.below hb).topL, OwnF.nil _ _, Frm.of_below hb⟩
  | false =>
    obtain ⟨g, A, c, y, Ax, cx, hy⟩ := h.yes rfl
    have e1 := hy.pl
    subst e1
    refine (LSend_any w.heap.size g A c l p wr hy.led h.bel.size hp hl).mono ?_
    rintro e w' ⟨rfl, hT⟩
    obtain ⟨hq, hf⟩ := h.toL hy (lSend_ok h.ok hp hs hz) hT
    exact ⟨rfl, hq, OwnF.nil _ _, hf⟩
theorem PP.sendR (h : PP no w wr ul ur pl px x l) (p : RPk) (hp : 0 ≤ p.nu) (hs : 0 ≤ p.se) (hl : x.op.length ≤ 1000000) :
    Calls Try.prog 14 #[.pointer px, .agg #[.int .u64 p.nu, .int .u64 p.se, .int .i64 p.si, .bool p.aq, .bool p.go]] wr fun e w' => e = .returned (.int .i64 (sendRn no x p)) ∧ PP no w w' ul w'.heap.size pl px (rSendn no x p) l ∧ Frm wr w' (fun b => b < ur) := by
  cases no with
  | true =>
    obtain ⟨rfl, rfl, rfl, rfl⟩ := h.nil rfl
    refine (rSend_nil p wr).mono ?_
    rintro e w' ⟨rfl, hb⟩
    exact ⟨rfl, (h.below hb).topR, Frm.of_below hb⟩
  | false =>
    obtain ⟨g, A, c, y, Ax, cx, hy⟩ := h.yes rfl
    have e1 := hy.px
    subst e1
    refine (rSend_any w.heap.size y Ax cx x p wr hy.rl hl h.bel.size hp).mono ?_
    rintro e w' ⟨rfl, hT⟩
    obtain ⟨hq, hf⟩ := h.toR hy (x' := rSend x p) (by
      unfold rSend
      by_cases hE : Go.Proofs.Ytefhbiocddgijaa.sendR x p = 0
      · rw [if_pos hE]
        intro q hq
        rcases List.mem_append.1 hq with hq | hq
        · exact h.rk q hq
        · simp at hq; subst hq
          have : ¬ 4611686018427387903 < q.se := by
            intro hb
            unfold Go.Proofs.Ytefhbiocddgijaa.sendR at hE
            rw [if_pos (.inr (.inr hb))] at hE
            omega
          omega
      · rw [if_neg hE]; exact h.rk) (by unfold rSend; split <;> exact h.rak) hT
    exact ⟨rfl, hq, hf⟩
theorem PP.openR (h : PP no w wr ul ur pl px x l) (hl : x.op.length ≤ 1000000) :
    Calls Try.prog 15 #[.pointer px] wr fun e w' => ∃ A1 c1, e = .returned (.slice A1 (x.op.filter live).length c1) ∧ OwnR w' wr.heap.size A1 c1 (x.op.filter live) ∧ Below wr.heap.size wr w' := by
  cases no with
  | true =>
    obtain ⟨rfl, rfl, rfl, rfl⟩ := h.nil rfl
    refine (rOpen_nil wr).mono ?_
    rintro e w' ⟨rfl, rfl⟩
    exact ⟨none, 0, rfl, OwnF.nil _ _, Below.refl _ _⟩
  | false =>
    obtain ⟨g, A, c, y, Ax, cx, hy⟩ := h.yes rfl
    have e1 := hy.px
    subst e1
    exact rOpen_any w.heap.size y Ax cx x wr hy.rl hl
theorem PP.openL (h : PP no w wr ul ur pl px x l) (hl : l.op.length ≤ 1000000) :
    Calls Try.prog 18 #[.pointer pl] wr fun e w' => ∃ A1 c1, e = .returned (.slice A1 l.op.length c1) ∧ OwnP w' wr.heap.size A1 c1 l.op ∧ Below wr.heap.size wr w' := by
  cases no with
  | true =>
    obtain ⟨rfl, rfl, rfl, rfl⟩ := h.nil rfl
    refine (LOpen_nil wr).mono ?_
    rintro e w' ⟨rfl, rfl⟩
    exact ⟨none, 0, rfl, OwnF.nil _ _, Below.refl _ _⟩
  | false =>
    obtain ⟨g, A, c, y, Ax, cx, hy⟩ := h.yes rfl
    have e1 := hy.pl
    subst e1
    exact LOpen_any w.heap.size g A c l wr hy.led hl
theorem PP.dueL (h : PP no w wr ul ur pl px x l) (t : Int) (ht : 0 ≤ t) (hl : l.op.length ≤ 1000000) :
    Calls Try.prog 16 #[.pointer pl, .int .u64 t] wr fun e w' => e = .returned (.tuple #[.int .u64 (dueN l t).1, .bool (dueN l t).2]) ∧ Below wr.heap.size wr w' := by
  cases no with
  | true =>
    obtain ⟨rfl, rfl, rfl, rfl⟩ := h.nil rfl
    exact LDue_nil t wr
  | false =>
    obtain ⟨g, A, c, y, Ax, cx, hy⟩ := h.yes rfl
    have e1 := hy.pl
    subst e1
    exact LDue_any w.heap.size g A c l t wr hy.led h.ok hl ht
theorem PP.dueR (h : PP no w wr ul ur pl px x l) (hal : Alike x l) (t : Int) (ht : 0 ≤ t) (hl : x.op.length ≤ 1000000) :
    Calls Try.prog 17 #[.pointer px, .int .u64 t] wr fun e w' => e = .returned (.tuple #[.int .u64 (dueN l t).1, .bool (dueN l t).2]) ∧ Below wr.heap.size wr w' := by
  cases no with
  | true =>
    obtain ⟨rfl, rfl, rfl, rfl⟩ := h.nil rfl
    refine (rDue_nil t wr).mono ?_
    rintro e w' ⟨rfl, rfl⟩
    exact ⟨rfl, Below.refl _ _⟩
  | false =>
    obtain ⟨g, A, c, y, Ax, cx, hy⟩ := h.yes rfl
    have e1 := hy.px
    subst e1
    refine (rDue_any w.heap.size y Ax cx x t wr hy.rl hl (fun p hp => (h.rk p hp).2) ht).mono ?_
    rintro e w' ⟨rfl, hb⟩
    exact ⟨by rw [hal.due h.ok], hb⟩
theorem PP.first (h : PP no w wr ul ur pl px x l) (hl : l.op.length ≤ 1000000) :
    Calls Try.prog 19 #[.pointer pl] wr fun e w' => e = .returned (.tuple #[.agg (pkCs (firstA l.op)), .bool (firstA l.op).isSome]) ∧ Below wr.heap.size wr w' := by
  cases no with
  | true =>
    obtain ⟨rfl, rfl, rfl, rfl⟩ := h.nil rfl
    exact LFirst_nil wr
  | false =>
    obtain ⟨g, A, c, y, Ax, cx, hy⟩ := h.yes rfl
    have e1 := hy.pl
    subst e1
    exact LFirst_any w.heap.size g A c l wr hy.led hl
theorem PP.last (h : PP no w wr ul ur pl px x l) (hl : l.op.length ≤ 1000000) :
    Calls Try.prog 20 #[.pointer pl] wr fun e w' => e = .returned (.tuple #[.int .u64 (((lastA l.op).map (·.se)).getD 0), .bool (lastA l.op).isSome]) ∧ Below wr.heap.size wr w' := by
  cases no with
  | true =>
    obtain ⟨rfl, rfl, rfl, rfl⟩ := h.nil rfl
    exact LLast_nil wr
  | false =>
    obtain ⟨g, A, c, y, Ax, cx, hy⟩ := h.yes rfl
    have e1 := hy.pl
    subst e1
    exact LLast_any w.heap.size g A c l wr hy.led hl
theorem PP.acked (h : PP no w wr ul ur pl px x l) :
    Calls Try.prog 21 #[.pointer pl] wr fun e w' => e = .returned (.tuple #[.int .u64 l.ak, .bool l.hs]) ∧ ∃ k, w' = wr.drewN k := by
  cases no with
  | true =>
    obtain ⟨rfl, rfl, rfl, rfl⟩ := h.nil rfl
    refine (LAcked_nil wr).mono ?_
    rintro e w' ⟨rfl, rfl⟩
    exact ⟨rfl, 0, rfl⟩
  | false =>
    obtain ⟨g, A, c, y, Ax, cx, hy⟩ := h.yes rfl
    have e1 := hy.pl
    subst e1
    exact LAcked_any w.heap.size g A c l wr hy.led
theorem PP.next (h : PP no w wr ul ur pl px x l) :
    Calls Try.prog 22 #[.pointer pl] wr fun e w' => e = .returned (.int .u64 l.nx) ∧ wr = w' := by
  cases no with
  | true =>
    obtain ⟨rfl, rfl, rfl, rfl⟩ := h.nil rfl
    exact LNext_nil wr
  | false =>
    obtain ⟨g, A, c, y, Ax, cx, hy⟩ := h.yes rfl
    have e1 := hy.pl
    subst e1
    exact LNext_any w.heap.size g A c l wr hy.led
end
/-! What both say. -/
theorem Alike.ackn {no : Bool} {x : RG} {l : LG} (h : Alike x l) (ok : LgOk l) (r : List (Int × Int)) (hr : ∀ y ∈ r, 0 ≤ y.2) : Alike (rAckn no x r) (lAckn no l r) ∧ outLn no l r = (outRn no x r).map pkOf ∧ ackEn no l r = ackRn no x r := by
  cases no with
  | true => exact ⟨h, rfl, rfl⟩
  | false =>
    have he := ackR_P h r
    unfold rAckn lAckn outLn outRn ackEn ackRn
    simp only [Bool.false_eq_true, if_false, he]
    by_cases h0 : ackE l r = 0
    · rw [if_pos h0, if_pos h0]
      obtain ⟨h1, h2⟩ := h.ack ok r hr h0
      exact ⟨h1, h2.symm, trivial⟩
    · rw [if_neg h0, if_neg h0]
      have := ack_bad h0
      rw [this.1, this.2]
      exact ⟨h, rfl, trivial⟩
theorem sendR_P {x : RG} {l : LG} (h : Alike x l) (p : RPk) : sendR x p = sendE l (pkOf p) := by
  unfold sendR sendE pkOf
  rw [h.nx]
theorem Alike.sendn {no : Bool} {x : RG} {l : LG} (h : Alike x l) (p : RPk) (hg : p.go = false) : Alike (rSendn no x p) (lSendn no l (pkOf p)) ∧ sendEn no l (pkOf p) = sendRn no x p := by
  cases no with
  | true => exact ⟨h, rfl⟩
  | false =>
    have he := sendR_P h p
    unfold rSendn lSendn sendEn sendRn
    simp only [Bool.false_eq_true, if_false, he]
    refine ⟨?_, trivial⟩
    unfold rSend
    rw [he]
    by_cases h0 : sendE l (pkOf p) = 0
    · rw [if_pos h0]; exact h.sent hg h0
    · rw [if_neg h0]
      have : lSend l (pkOf p) = l := by unfold lSend; rw [if_neg h0]
      rw [this]; exact h
theorem ackn_len {no : Bool} {x : RG} (r : List (Int × Int)) : (rAckn no x r).op.length = x.op.length := by
  unfold rAckn
  split
  · rfl
  · split
    · simp [rAck]
    · rfl
theorem sendn_len {no : Bool} {x : RG} (p : RPk) : (rSendn no x p).op.length ≤ x.op.length + 1 := by
  unfold rSendn
  split
  · omega
  · unfold rSend
    split
    · simp
    · omega
theorem Alike.len {x : RG} {l : LG} (h : Alike x l) : l.op.length ≤ x.op.length := by
  rw [h.op]; unfold liveP; simp; exact List.length_filter_le _ _
/-- Those that ask. -/
def asksR (x : RG) : List RPk := (x.op.filter live).filter (·.aq)
theorem asks_l {x : RG} {l : LG} (h : Alike x l) : l.op.filter (·.aq) = (asksR x).map pkOf := by
  rw [h.op]; unfold liveP asksR
  rw [List.filter_map]
  rfl
theorem firstA_is {x : RG} {l : LG} (h : Alike x l) : firstA l.op = (asksR x).head?.map pkOf := by
  unfold firstA
  rw [← List.head?_filter, asks_l h, List.head?_map]
theorem lastA_is {x : RG} {l : LG} (h : Alike x l) : lastA l.op = (asksR x).getLast?.map pkOf := by
  unfold lastA
  rw [← List.head?_filter, List.filter_reverse, List.head?_reverse, asks_l h, List.getLast?_map]
end Go.Proofs.Ytefhbiocddgijaa
