/-
  The reference's Ack.
-/
import Derived.Test.YtefhbiocddgijaaRLossF
namespace Go.Proofs.Ytefhbiocddgijaa
open Go.RowKit
set_option linter.unusedVariables false
set_option linter.unusedSimpArgs false
def ackR (l : RG) (r : List (Int × Int)) : Int := if r.any (fun x => decide (x.2 < x.1)) then 4 else if r.any (fun x => decide (l.nx ≤ x.2)) then 1 else 0
def topStep (s : Int × Bool) (x : Int × Int) : Int × Bool := if s.2 = false ∨ s.1 < x.2 then (x.2, true) else s
def topF (l : RG) (r : List (Int × Int)) : Int × Bool := r.foldl topStep (l.ak, l.hs)
def rAck (l : RG) (r : List (Int × Int)) : RG := ⟨l.op.map (markG (GA r)), l.nx, (topF l r).1, (topF l r).2⟩
structure RAckTo (w w' : World) (base x : Nat) (A : Option Addr) (c : Nat) (l : RG) (r : List (Int × Int)) (m : Nat) (A1 : Option Addr) (c1 : Nat) : Prop where
  bad : ackR l r ≠ 0 → m = 0 ∧ RLed w' base x A c l
  good : ackR l r = 0 → m = (l.op.filter (GA r)).length ∧ OwnV w' w.heap.size 32 5 A1 c1 m (FlV RPkC (l.op.filter (GA r))) ∧ RLed w' base x A c (rAck l r)
  fr : Frm w w' (LedS x A)
set_option maxRecDepth 100000 in
theorem rAck_nil (B : Option Addr) (n d : Nat) (w : World) : Calls Try.prog 7 #[.pointer none, .slice B n d] w fun r w' => r = .returned (.tuple #[.slice none 0 0, .int .i64 6]) ∧ w = w' := by
  go_enter Try.func7, Try.ntmps7
  go_wp2_with fail
  exact bodyPost_ret (results_tmp2 rfl _ _ _) rfl ⟨rfl, rfl⟩
theorem OwnV.base_le {w : World} {base base' : Nat} {e : TypeId} {size n : Nat} {A : Option Addr} {c : Nat} {xs : List Value} (h : OwnV w base e size A c n xs) (hb : base' ≤ base) : OwnV w base' e size A c n xs := by
  obtain ⟨h1, h2⟩ := h
  rcases h2 with h2 | ⟨g, cap, cur, hv, hg, rest⟩
  · exact ⟨h1, .inl h2⟩
  · exact ⟨h1, .inr ⟨g, cap, cur, hv, by omega, rest⟩⟩
theorem any_false_snoc {f : Int × Int → Bool} {r : List (Int × Int)} {k : Nat} {y : Int × Int} (h : (r.take k).any f = false) (hy : r[k]? = some y) (hf : f y = false) : (r.take (k + 1)).any f = false := by
  rw [take_snoc hy, List.any_append, h]; simp [hf]
theorem RLed.put {w : World} {base x : Nat} {A : Option Addr} {c : Nat} {l : RG} (h : RLed w base x A c l) (t : Int) : RLed ((w.setCell ⟨x, 3, none⟩ (.bool true)).setCell ⟨x, 2, none⟩ (.int .u64 t)) base x A c ⟨l.op, l.nx, t, true⟩ := by
  refine ⟨?_, ?_, h.le⟩
  · have := Blk.set_ (Blk.set_ h.blk 3 (.bool true)) 2 (.int .u64 t)
    simpa using this
  · exact OwnV.frm h.own (Frm.setS (Frm.setS (Frm.refl _ _) (S := fun b => b = x) rfl _) rfl _) (fun b hb e => h.ne b hb e)
set_option maxHeartbeats 4000000 in
set_option maxRecDepth 100000 in
theorem rAck_any (base x : Nat) (A : Option Addr) (c : Nat) (l : RG) (B : Option Addr) (d : Nat) (r : List (Int × Int)) (w : World) (h : RLed w base x A c l) (hl : l.op.length ≤ 1000000) (hr : RdG w B r) (hrl : r.length ≤ 1000000)
    (hrg : ∀ a, B = some a → 0 < r.length → ¬ LedS x A a.block) :
    Calls Try.prog 7 #[.pointer (some ⟨x, 0, none⟩), .slice B r.length d] w fun e w' => ∃ m A1 c1, e = .returned (.tuple #[.slice A1 m c1, .int .i64 (ackR l r)]) ∧ Hid (RAckTo w w' base x A c l r m A1 c1) := by
  have HL := Lib.hid h
  have HR := Lib.hid hr
  have hx0 := h.lt
  clear h hr
  go_enter Try.func7, Try.ntmps7
  go_wp2_with fail
  go_loopw [21] (fun i wr => ∃ k : Nat, k ≤ r.length ∧ i = .int .i64 k ∧ Hid ((r.take k).any (fun x => decide (x.2 < x.1)) = false ∧ Below w.heap.size w wr)) (fun i _ => r.length - (intOf i).toNat)
  case atStart => exact ⟨0, by omega, rfl, Lib.hid ⟨by simp, Below.refl _ _⟩⟩
  case round =>
    obtain ⟨k, hk, rfl, HI⟩ := hrel
    by_cases hlt : k < r.length
    · obtain ⟨b, off, y, rfl, hbz, hy, y0, y1⟩ := (HR.out.below HI.out.2).at_ hlt
      obtain ⟨f, t⟩ := y
      simp only at y0 y1
      have HBA := Lib.hid (HI.out.2.alloc HI.out.2.size (.cells #[.int .u64 f, .int .u64 t] 61))
      by_cases hb : t < f
      · have e1 : decide (t < f) = true := by simpa using hb
        have hE : ackR l r = 4 := if_pos (List.any_eq_true.2 ⟨(f, t), List.mem_of_getElem? hy, e1⟩)
        have HE := Lib.hid hE
        clear hE hy
        go_wp2_with fail
        refine bodyPost_ret (results_tmp2 rfl _ _ _) rfl ⟨0, none, 0, by rw [HE.out]; rfl, Lib.hid ⟨fun _ => ⟨rfl, HL.out.below HBA.out⟩, fun h0 => by rw [HE.out] at h0; omega, Frm.of_below HBA.out⟩⟩
      · have e1 : decide (t < f) = false := by simpa using hb
        have HN := Lib.hid (any_false_snoc HI.out.1 hy e1)
        clear hy
        go_wp2_with fail
        go_roundw
        case rel => exact ⟨k + 1, by omega, by go_num, Lib.hid ⟨HN.out, HBA.out⟩⟩
        case measure => simp [intOf]; omega
    · have hd : decide (k < r.length) = false := by simpa using hlt
      have hi := HI.out
      rw [List.take_of_length_le (by omega)] at hi
      have HI1 := Lib.hid hi
      rename World => wa
      clear HI hi
      go_wp2_with fail
      go_loopw [33] (fun i wr => ∃ k : Nat, k ≤ r.length ∧ i = .int .i64 k ∧ Hid ((r.take k).any (fun x => decide (l.nx ≤ x.2)) = false ∧ Below w.heap.size w wr)) (fun i _ => r.length - (intOf i).toNat)
      case atStart => exact ⟨0, by omega, rfl, Lib.hid ⟨by simp, HI1.out.2⟩⟩
      case round =>
        obtain ⟨k2, hk2, rfl, HI⟩ := hrel
        by_cases hlt2 : k2 < r.length
        · obtain ⟨b, off, y, rfl, hbz, hy, y0, y1⟩ := (HR.out.below HI.out.2).at_ hlt2
          obtain ⟨f, t⟩ := y
          simp only at y0 y1
          have HBA := Lib.hid (HI.out.2.alloc HI.out.2.size (.cells #[.int .u64 f, .int .u64 t] 61)).drew
          have hrl2 := HL.out.below HI.out.2
          have c1 := hrl2.blk.cell 1
          have hxz := hrl2.lt
          simp at c1
          clear hrl2
          by_cases hb : l.nx ≤ t
          · have e1 : decide (l.nx ≤ t) = true := by simpa using hb
            have hE : ackR l r = 1 := by
              unfold ackR
              rw [if_neg (by rw [HI1.out.1]; simp), if_pos (List.any_eq_true.2 ⟨(f, t), List.mem_of_getElem? hy, e1⟩)]
            have HE := Lib.hid hE
            clear hE hy
            go_wp2_with fail
            go_region
            go_wp2_with fail
            refine bodyPost_ret (results_tmp2 rfl _ _ _) rfl ⟨0, none, 0, by rw [HE.out]; rfl, Lib.hid ⟨fun _ => ⟨rfl, HL.out.below HBA.out⟩, fun h0 => by rw [HE.out] at h0; omega, Frm.of_below HBA.out⟩⟩
          · have e1 : decide (l.nx ≤ t) = false := by simpa using hb
            have HN := Lib.hid (any_false_snoc HI.out.1 hy e1)
            clear hy
            go_wp2_with fail
            go_region
            go_wp2_with fail
            go_roundw
            case rel => exact ⟨k2 + 1, by omega, by go_num, Lib.hid ⟨HN.out, HBA.out⟩⟩
            case measure => simp [intOf]; omega
        · have hd2 : decide (k2 < r.length) = false := by simpa using hlt2
          have hi := HI.out
          rw [List.take_of_length_le (by omega)] at hi
          have hE : ackR l r = 0 := by
            unfold ackR
            rw [if_neg (by rw [HI1.out.1]; simp), if_neg (by rw [hi.1]; simp)]
          have HE := Lib.hid hE
          have HBB := Lib.hid hi.2
          rename World => wb
          clear HI hi hE HI1
          have hrl2 := HL.out.below HBB.out
          have c0 := hrl2.blk.cell 0
          have hxz := hrl2.lt
          simp at c0
          have HS := Lib.hid (RI.start (G := GA r) hrl2)
          clear hrl2
          have HRB := Lib.hid (HR.out.below HBB.out)
          go_wp2_with fail
          go_loopw [50, 10] (fun i o wr => ∃ (k m : Nat) (A1 : Option Addr) (c1 : Nat), k ≤ l.op.length ∧ i = .int .i64 k ∧ o = .slice A1 m c1 ∧ Hid (RI wb wr base x A c l (GA r) k m A1 c1)) (fun i _ _ => l.op.length - (intOf i).toNat)
          case atStart => exact ⟨0, 0, none, 0, by omega, rfl, rfl, HS⟩
          case round =>
            obtain ⟨k, m, A1, c1, hk3, rfl, rfl, HI⟩ := hrel
            clear HS c0
            by_cases hlt3 : k < l.op.length
            · obtain ⟨p, hx⟩ : ∃ p, l.op[k]? = some p := ⟨_, List.getElem?_eq_getElem hlt3⟩
              have HX := Lib.hid hx
              have HJ0 := Lib.hid (RJ.start HI.out p)
              clear HI hx
              go_wp2_with fail
              go_loopw [55, 10] (fun i o wq => ∃ (j m2 : Nat) (tk : Bool) (A2 : Option Addr) (c2 : Nat), j ≤ r.length ∧ i = .int .i64 j ∧ o = .slice A2 m2 c2 ∧ Hid (RJ wb wq base x A c l r k p j m2 tk A2 c2)) (fun i _ _ => r.length - (intOf i).toNat)
              case atStart => exact ⟨0, m, false, A1, c1, by omega, rfl, rfl, HJ0⟩
              case round =>
                obtain ⟨j, m2, tk, A2, c2, hj, rfl, rfl, HJ⟩ := hrel
                clear HJ0
                by_cases hlt4 : j < r.length
                · have hrr := HRB.out.frm HJ.out.frm hrg
                  obtain ⟨br, offr, y, rfl, hbz, hy, y0, y1⟩ := hrr.at_ hlt4
                  obtain ⟨f, t⟩ := y
                  simp only at y0 y1
                  have HY := Lib.hid hy
                  obtain ⟨l', hl', hlen', hat'⟩ := HJ.out.led HX.out
                  obtain ⟨b, off, rfl, zb, hcell⟩ := RdR.at0 (OwnF.reads hl'.own) hat'
                  obtain ⟨_, _, hA, _⟩ := OwnR.mark hl'.own hat'
                  injection hA with hA
                  injection hA with e1 e2
                  subst e2
                  clear e1
                  have x0 := hcell 0 (by omega)
                  have x1 := hcell 1 (by omega)
                  have x2 := hcell 2 (by omega)
                  have x3 := hcell 3 (by omega)
                  have x4 := hcell 4 (by omega)
                  have c0 := hl'.blk.cell 0
                  have hxz2 := hl'.lt
                  rw [hlen'] at c0
                  simp at c0
                  clear hcell hat' hlen' hl' hrr hy
                  obtain ⟨nu, se, si, aq, go⟩ := p
                  cases tk with
                  | true =>
                    simp [RPkC, mkR] at x0 x1 x2 x3 x4
                    have HS := Lib.hid (((HJ.out.alloc (.cells #[.int .u64 f, .int .u64 t] 61)).alloc (.cells #[.int .u64 nu, .int .u64 se, .int .i64 si, .bool aq, .bool true] 32)).stay HY.out (.inl rfl))
                    go_wp2_with fail
                    go_roundw
                    case rel => exact ⟨j + 1, m2, true, A2, c2, by omega, by go_num, rfl, HS⟩
                    case measure => simp [intOf]; omega
                  | false =>
                    simp [RPkC] at x0 x1 x2 x3 x4
                    cases go with
                    | true =>
                      have HS := Lib.hid (((HJ.out.alloc (.cells #[.int .u64 f, .int .u64 t] 61)).alloc (.cells #[.int .u64 nu, .int .u64 se, .int .i64 si, .bool aq, .bool true] 32)).stay HY.out (.inr (.inl rfl)))
                      go_wp2_with fail
                      go_roundw
                      case rel => exact ⟨j + 1, m2, false, A2, c2, by omega, by go_num, rfl, HS⟩
                      case measure => simp [intOf]; omega
                    | false =>
                      by_cases h1 : f ≤ nu
                      · have e1 : decide (f ≤ nu) = true := by simpa using h1
                        by_cases h2 : nu ≤ t
                        · have e2 : decide (nu ≤ t) = true := by simpa using h2
                          have hin : inX ⟨nu, se, si, aq, false⟩ (f, t) = true := by simp [inX]; exact ⟨h1, h2⟩
                          have hG : GA r ⟨nu, se, si, aq, false⟩ = true := by
                            unfold GA
                            rw [List.any_eq_true.2 ⟨(f, t), List.mem_of_getElem? HY.out, hin⟩]
                            rfl
                          have HG := Lib.hid hG
                          have HIN := Lib.hid hin
                          have HR1 := Lib.hid ((((HJ.out.no rfl).alloc (.cells #[.int .u64 f, .int .u64 t] 61)).alloc (.cells #[.int .u64 nu, .int .u64 se, .int .i64 si, .bool aq, .bool false] 32)))
                          have hml : m2 ≤ l.op.length := by rw [HR1.out.len]; exact Nat.le_trans (List.length_filter_le _ _) (by simp; omega)
                          have hzr := HR1.out.fr.size
                          have hnew := reads_rpk (((wr.alloc (.cells #[.int .u64 f, .int .u64 t] 61)).alloc (.cells #[.int .u64 nu, .int .u64 se, .int .i64 si, .bool aq, .bool false] 32))) ⟨nu, se, si, aq, false⟩ 32
                          rw [show ((wr.alloc (.cells #[.int .u64 f, .int .u64 t] 61)).alloc (.cells #[.int .u64 nu, .int .u64 se, .int .i64 si, .bool aq, .bool false] 32)).heap.size = wr.heap.size + 2 by simp] at hnew
                          have HNEW := Lib.hid hnew
                          have HTK := Lib.hid HJ.out.tky
                          clear hnew hin hG HJ
                          go_wp2_with (at_builtin; go_must (refine wpList_appV rfl (.tmp 83) (.tmp 85) 27 32 5 32 (.agg #[.int .u64 0, .int .u64 0, .int .i64 0, .bool false, .bool false]) rfl Try.underlying27 info_rpk rfl (by omega) wb.heap.size (n := m2) (m := 1) (xs := FlV RPkC ((l.op.take k).filter (GA r))) (news := RPkC ⟨nu, se, si, aq, false⟩) (d := 1) rfl rfl (OwnV.below HR1.out.out ((Below.refl _ _).alloc (Nat.le_refl _) _)) HNEW.out (RPkC_one _) (by unfold maxLen; omega) (by omega) (by simp at hzr ⊢; omega) ?_); intro A3 c3 w7 hown hg7 hb7; obtain ⟨hl7, gg, cur, hA, hne, hk7, hcl, hRI⟩ := (HR1.out.alloc (.cells #[.int .u64 nu, .int .u64 se, .int .i64 si, .bool aq, .bool false] 32)).took HX.out HG.out hown hg7; injection hA with hA; injection hA with e1; subst e1; have c7 := hl7.blk.cell 0; simp [marked_len] at c7; have hc4 := hk7.cell (k * 5 + 4); rw [Array.getElem?_eq_getElem hcl] at hc4; have hf4 := hk7.frozen (k * 5 + 4); have hz4 := hk7.lt; have hzx := hl7.lt; have HRI := Lib.hid hRI; clear hown hg7 hb7 hl7 hk7 hRI c0 x0 x1 x2 x3 x4 y0 y1)
                          go_roundw
                          case rel => exact ⟨j + 1, m2 + 1, true, A3, c3, by omega, by go_num, rfl, Lib.hid ⟨by rw [any_snoc HY.out, HIN.out]; simp, (fun h => by cases h), fun _ => HRI.out⟩⟩
                          case measure => simp [intOf]; omega
                        · have e2 : decide (nu ≤ t) = false := by simpa using h2
                          have HS := Lib.hid (((HJ.out.alloc (.cells #[.int .u64 f, .int .u64 t] 61)).alloc (.cells #[.int .u64 nu, .int .u64 se, .int .i64 si, .bool aq, .bool false] 32)).stay HY.out (.inr (.inr (by simp [inX]; omega))))
                          go_wp2_with fail
                          go_roundw
                          case rel => exact ⟨j + 1, m2, false, A2, c2, by omega, by go_num, rfl, HS⟩
                          case measure => simp [intOf]; omega
                      · have e1 : decide (f ≤ nu) = false := by simpa using h1
                        have HS := Lib.hid (((HJ.out.alloc (.cells #[.int .u64 f, .int .u64 t] 61)).alloc (.cells #[.int .u64 nu, .int .u64 se, .int .i64 si, .bool aq, .bool false] 32)).stay HY.out (.inr (.inr (by simp [inX]; omega))))
                        go_wp2_with fail
                        go_roundw
                        case rel => exact ⟨j + 1, m2, false, A2, c2, by omega, by go_num, rfl, HS⟩
                        case measure => simp [intOf]; omega
                · have hd4 : decide (j < r.length) = false := by simpa using hlt4
                  have HN := Lib.hid (HJ.out.done HX.out (by omega))
                  clear HJ
                  go_wp2_with fail
                  go_roundw
                  case rel => exact ⟨k + 1, m2, A2, c2, by omega, by go_num, rfl, HN⟩
                  case measure => simp [intOf]; omega
            · have hd3 : decide (k < l.op.length) = false := by simpa using hlt3
              obtain rfl : k = l.op.length := by omega
              have hlen := HI.out.len
              have hout := HI.out.out
              have hled := HI.out.led
              rw [List.take_length] at hlen hout
              rw [marked_all _ _ (Nat.le_refl _)] at hled
              have HOUT := Lib.hid (And.intro hlen hout)
              have HLED := Lib.hid hled
              have HFR := Lib.hid HI.out.fr
              have HLO := Lib.hid HI.out.lo
              rename World => wv
              clear HI hlen hout hled
              go_wp2_with fail
              go_loopw [98] (fun i wq => ∃ j : Nat, j ≤ r.length ∧ i = .int .i64 j ∧ Hid (RLed wq base x A c ⟨l.op.map (markG (GA r)), l.nx, ((r.take j).foldl topStep (l.ak, l.hs)).1, ((r.take j).foldl topStep (l.ak, l.hs)).2⟩ ∧ Frm wv wq (fun b => b = x))) (fun i _ => r.length - (intOf i).toNat)
              case atStart => exact ⟨0, by omega, rfl, Lib.hid ⟨HLED.out, Frm.refl _ _⟩⟩
              case round =>
                obtain ⟨j, hj, rfl, HJ⟩ := hrel
                by_cases hlt4 : j < r.length
                · have hrr := (HRB.out.frm HFR.out hrg).frm HJ.out.2 (fun a ha hn e => hrg a ha hn (.inl e))
                  obtain ⟨br, offr, y, rfl, hbz, hy, y0, y1⟩ := hrr.at_ hlt4
                  obtain ⟨f, t⟩ := y
                  simp only at y0 y1
                  have hst : (r.take (j + 1)).foldl topStep (l.ak, l.hs) = topStep ((r.take j).foldl topStep (l.ak, l.hs)) (f, t) := by rw [take_snoc hy, List.foldl_append]; rfl
                  obtain ⟨s, hs⟩ : ∃ s, s = (r.take j).foldl topStep (l.ak, l.hs) := ⟨_, rfl⟩
                  rw [← hs] at hst HJ
                  obtain ⟨sa, sb⟩ := s
                  have HST := Lib.hid hst
                  have c2 := HJ.out.1.blk.cell 2
                  have c3 := HJ.out.1.blk.cell 3
                  have f2 := HJ.out.1.blk.frozen 2
                  have f3 := HJ.out.1.blk.frozen 3
                  have hxz2 := HJ.out.1.lt
                  simp at c2 c3
                  have HA := Lib.hid (HJ.out.1.below ((Below.refl _ _).alloc (Nat.le_refl _) (.cells #[.int .u64 f, .int .u64 t] 61)))
                  have HFA := Lib.hid (HJ.out.2.alloc (.cells #[.int .u64 f, .int .u64 t] 61))
                  have HP := Lib.hid ((HJ.out.1.put t).below ((Below.refl _ _).alloc (Nat.le_refl _) (.cells #[.int .u64 f, .int .u64 t] 61)))
                  have HFP := Lib.hid (((Frm.setS (Frm.setS HJ.out.2 (i := 3) rfl (.bool true)) (i := 2) rfl (.int .u64 t)).alloc (.cells #[.int .u64 f, .int .u64 t] 61)))
                  clear hrr hy hst hs HJ
                  cases sb with
                  | false =>
                    have e : topStep (sa, false) (f, t) = (t, true) := by simp [topStep]
                    have HE2 := Lib.hid e
                    clear e
                    go_wp2_with fail
                    go_region
                    go_wp2_with fail
                    go_region
                    go_wp2_with fail
                    go_roundw
                    case rel => exact ⟨j + 1, by omega, by go_num, Lib.hid ⟨by rw [HST.out, HE2.out]; exact HP.out.drew.drew, HFP.out.drew.drew⟩⟩
                    case measure => simp [intOf]; omega
                  | true =>
                    by_cases h1 : sa < t
                    · have e1 : decide (sa < t) = true := by simpa using h1
                      have e : topStep (sa, true) (f, t) = (t, true) := by unfold topStep; rw [if_pos (by simp; omega)]
                      have HE2 := Lib.hid e
                      clear e
                      go_wp2_with fail
                      go_region
                      go_wp2_with fail
                      go_region
                      go_wp2_with fail
                      go_roundw
                      case rel => exact ⟨j + 1, by omega, by go_num, Lib.hid ⟨by rw [HST.out, HE2.out]; exact HP.out.drew.drew, HFP.out.drew.drew⟩⟩
                      case measure => simp [intOf]; omega
                    · have e1 : decide (sa < t) = false := by simpa using h1
                      have e : topStep (sa, true) (f, t) = (sa, true) := by unfold topStep; rw [if_neg (by simp; omega)]
                      have HE2 := Lib.hid e
                      clear e
                      go_wp2_with fail
                      go_region
                      go_wp2_with fail
                      go_roundw
                      case rel => exact ⟨j + 1, by omega, by go_num, Lib.hid ⟨by rw [HST.out, HE2.out]; exact HA.out.drew, HFA.out.drew⟩⟩
                      case measure => simp [intOf]; omega
                · have hd4 : decide (j < r.length) = false := by simpa using hlt4
                  have hi := HJ.out
                  rw [List.take_of_length_le (by omega)] at hi
                  have HI2 := Lib.hid hi
                  have hzb := HBB.out.size
                  clear hi HJ
                  go_wp2_with fail
                  refine bodyPost_ret (results_tmp2 rfl _ _ _) rfl ⟨m, A1, c1, by rw [HE.out]; rfl, Lib.hid ⟨fun h0 => absurd HE.out h0, fun _ => ⟨HOUT.out.1, OwnV.base_le (OwnV.frm HOUT.out.2 HI2.out.2 (fun b hb e => ?_)) hzb, HI2.out.1⟩, (Frm.of_below HBB.out).trans (HFR.out.trans (HI2.out.2.mono (fun b _ e => .inl e)))⟩⟩
                  have h1 := OwnV.row_ge' HOUT.out.2 hb
                  have h2 := HLO.out x (.inl rfl)
                  omega
end Go.Proofs.Ytefhbiocddgijaa
