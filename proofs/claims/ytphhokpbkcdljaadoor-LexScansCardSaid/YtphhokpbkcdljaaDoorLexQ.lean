/- The contract of the document's Quoted. Condition: the text has no more than a million bytes. -/
import Derived.Laws.MakeOwn
import Derived.Lib.AppendStr
import Derived.OwnWalk
import Derived.Maps.AppendAt
import Derived.Test.YtphhokpbkcdljaaDoorLexU
import Derived.Test.YtphhokpbkcdljaaDoorRefPackAll
namespace Go.Proofs.YtphhokpbkcdljaaDoor
open Go Go.RowKit
theorem drewL {B : Nat} {a w : World} (h : Below B a w) (n : Nat) : Below B a (w.drewN n) := ⟨h.os, h.tape, h.output, h.size, h.block⟩
/-- what Quoted answers -/
def QV (l : List UInt8) (w : World) (e : Ending) (w' : World) : Prop := ((∃ t, quotedL l = some t ∧ e = .returned (.tuple #[.string ⟨t.toArray⟩, .bool true])) ∨ (quotedL l = none ∧ ∃ x : ByteArray, e = .returned (.tuple #[.string x, .bool false]))) ∧ Below w.heap.size w w'
/-- what is left to be read of a quoted text -/
def QR5 (l : List UInt8) (k : Nat) (out : List UInt8) : Option (List UInt8) := match txt (l.drop k) with
  | some y => if y.2 = l.length - k then some (out ++ y.1) else none
  | none => none
theorem txt_cons {l : List UInt8} (h : l.headD 0 ≠ 34) : txt l = match sgn l with
    | none => none
    | some x => (txt (l.drop x.2)).map fun y => (x.1 :: y.1, y.2 + x.2) := by
  rw [txt, if_neg h]
  split
  · rename_i h2; rw [h2]
  · rename_i x h2; rw [h2]
theorem sgn_34 {l : List UInt8} (h : l.headD 0 = 34) : sgn l = none := by
  cases l with
  | nil => simp at h
  | cons c r =>
    have : c = 34 := h
    subst this
    rfl
theorem qr_start {c : UInt8} {r : List UInt8} (h : c.toNat = 34) : QR5 (c :: r) 1 [] = quotedL (c :: r) := by
  unfold QR5
  rw [quotedL_cons, if_pos h]
  simp only [List.drop_one, List.tail_cons, List.length_cons, Nat.add_sub_cancel, List.nil_append]
  rfl
theorem qr_none {l : List UInt8} {k : Nat} {out : List UInt8} (h : sgn (l.drop k) = none) (hk : k + 2 ≤ l.length) : QR5 l k out = none := by
  unfold QR5
  by_cases h34 : (l.drop k).headD 0 = 34
  · rw [txt, if_pos h34]
    simp only
    rw [if_neg (by omega)]
  · rw [txt_cons h34, h]
theorem qr_step {l : List UInt8} {k : Nat} {out : List UInt8} {x : UInt8 × Nat} (h : sgn (l.drop k) = some x) : QR5 l k out = QR5 l (k + x.2) (out ++ [x.1]) := by
  have h34 : (l.drop k).headD 0 ≠ 34 := fun q => by rw [sgn_34 q] at h; cases h
  have hp := sgn_pos h
  rw [List.length_drop] at hp
  unfold QR5
  rw [txt_cons h34, h]
  simp only
  rw [List.drop_drop]
  cases txt (l.drop (k + x.2)) with
  | none => rfl
  | some y =>
    simp only [Option.map_some]
    by_cases q : y.2 = l.length - (k + x.2)
    · rw [if_pos q, if_pos (by omega), List.append_assoc]; rfl
    · rw [if_neg q, if_neg (by omega)]
theorem txt_nil : txt [] = none := by
  rw [txt]
  rw [if_neg (by decide)]
  rfl
theorem qr_end {l : List UInt8} {k : Nat} {out : List UInt8} (h : l.length ≤ k) : QR5 l k out = none := by
  unfold QR5
  rw [List.drop_eq_nil_of_le h, txt_nil]
theorem qr_last {l : List UInt8} {k : Nat} {out : List UInt8} {c : UInt8} (h : l.drop k = [c]) (hk : k + 1 = l.length) : QR5 l k out = if c = 34 then some out else none := by
  unfold QR5
  by_cases q : c = 34
  · rw [if_pos q, h, txt, if_pos (by exact q)]
    simp only
    rw [if_pos (by omega), List.append_nil]
  · rw [if_neg q, h, txt_cons (by exact q)]
    cases e : sgn [c] with
    | none => rfl
    | some x =>
      have hp := sgn_pos e
      simp only [List.length_singleton] at hp
      simp only
      rw [List.drop_eq_nil_of_le (by simp; omega), txt_nil]
      rfl
theorem ext_drop (s : ByteArray) (k : Nat) : (s.extract k s.size).data.toList = s.data.toList.drop k := Lib.extract_to_end s k
theorem ownsRow_shapeL {W : World} {B n : Nat} {e : TypeId} {v : Value} {xs : List Value} (h : W.ownsRow B e 1 v n xs) : ∃ A cap, v = .slice A n cap := by
  rcases h.2 with ⟨rfl, rfl⟩ | ⟨g, cap, cur, rfl, _⟩
  · exact ⟨none, 0, rfl⟩
  · exact ⟨_, cap, rfl⟩
theorem infoU8L : (Tryd.prog.info? 5).map (fun i => (i.zero, i.size, i.bytes)) = some (some (.int .u8 0), 1, 1) := by kernel_rfl
theorem u8s_one (l : List UInt8) (c : UInt8) : u8s l ++ [Value.int .u8 (c.toNat : Int)] = u8s (l ++ [c]) := by simp [u8s]
structure QI (w : World) (s : ByteArray) (k : Nat) (out : List UInt8) (v : Value) (wr : World) : Prop where
  row : wr.ownsRow w.heap.size 5 1 v out.length (u8s out)
  len : out.length ≤ k
  fr : Below w.heap.size w wr
set_option maxRecDepth 100000 in
set_option maxHeartbeats 16000000 in
theorem ref_quoted (s : ByteArray) (hs : s.size ≤ 1000000) (w : World) :
    Calls Tryd.prog 51 #[.string s] w (QV s.data.toList w) := by
  obtain ⟨i0, hi, hz0, hz1, hz2⟩ := info_parts infoU8L
  unfold QV
  by_cases h2 : s.size < 2
  · have hq : quotedL s.data.toList = none := by
      cases hq : s.data.toList with
      | nil => rfl
      | cons c r =>
        have h3 := congrArg List.length hq
        rw [len_data] at h3
        have : r = [] := by cases r with
          | nil => rfl
          | cons d r => simp at h3; omega
        subst this
        rw [quotedL_cons, txt_nil]
        split <;> rfl
    have HQ := Lib.hid hq
    have hd : decide ((s.size : Int) < 2) = true := decide_eq_true (by omega)
    clear hq h2
    go_enter Tryd.func51, Tryd.ntmps51
    go_wp2_with fail
    go_ret2
    exact ⟨.inr ⟨HQ.out, _, rfl⟩, Below.refl _ _⟩
  have hd : decide ((s.size : Int) < 2) = false := decide_eq_false (by omega)
  have h0 : 0 < s.size := by omega
  have hl : s.data.toList = s[0] :: s.data.toList.drop 1 := by have := drop_cons s h0; simpa using this
  by_cases h34 : s[0].toNat = 34
  · have hB : (((s[0].toNat : Nat) : Int) != 34) = false := by simp; omega
    have hst : QR5 s.data.toList 1 [] = quotedL s.data.toList := by rw [hl]; exact qr_start h34
    obtain ⟨Q, hQ⟩ : ∃ Q, quotedL s.data.toList = Q := ⟨_, rfl⟩
    rw [hQ] at hst ⊢
    have HST := Lib.hid hst
    have HI0 := Lib.hid (show QI w s 1 [] (.slice none 0 0) w from ⟨World.ownsRow_nil _ _ _ _, by simp, Below.refl _ _⟩)
    have h2' : 2 ≤ s.size := by omega
    clear hl h34 hst hQ h2
    go_enter Tryd.func51, Tryd.ntmps51
    go_wp2_with fail
    go_loopw [4, 5] (fun v i wr => ∃ (k : Nat) (out : List UInt8), 1 ≤ k ∧ k ≤ s.size ∧ i = .int .i64 k ∧ QR5 s.data.toList k out = Q ∧ QI w s k out v wr) (fun _ i _ => s.size - (intOf i).toNat)
    case atStart => exact ⟨1, [], Nat.le_refl _, by omega, rfl, HST.out, HI0.out⟩
    case round =>
      obtain ⟨k, out, hk1, hk, rfl, hqr, hqi⟩ := hrel
      have HQR := Lib.hid hqr
      have HQI := Lib.hid hqi
      obtain ⟨va, vc, rfl⟩ := ownsRow_shapeL hqi.row
      have hol := hqi.len
      clear hqr hqi HI0
      obtain ⟨L, hL⟩ : ∃ L, out.length = L := ⟨_, rfl⟩
      rw [hL] at hol ⊢
      have HL := Lib.hid hL
      have hrow := HQI.out.row
      rw [hL] at hrow
      have HROW := Lib.hid hrow
      clear hL hrow
      by_cases hlt : k + 1 < s.size
      · have hB2 : decide ((k : Int) < (s.size : Int) - 1) = true := decide_eq_true (by omega)
        have hk0 : (0 : Int) ≤ k := by omega
        have hks : (k : Int) ≤ s.size := by omega
        have hsg := ref_sign (s.extract k s.size) (by rw [ByteArray.size_extract]; omega) wr
        rw [ext_drop] at hsg
        have HB := Lib.hid HQI.out.fr
        cases e : sgn (s.data.toList.drop k) with
        | none =>
          have hv : sgnV (s.data.toList.drop k) = (0, 0) := by unfold sgnV; rw [e]
          rw [hv] at hsg
          have HSG := Lib.hid (show Calls _ _ _ wr (fun e w' => e = .returned (.tuple #[.int .u8 0, .int .i64 0]) ∧ ∃ n, w' = wr.drewN n) from hsg)
          have HN := Lib.hid (qr_none (out := out) e (by rw [len_data]; omega))
          clear hsg hv e
          go_wp2_with fail
          refine (HSG.out).mono ?_
          rintro e w1 ⟨rfl, q1, hw1⟩
          have HB1 := Lib.hid (show Below w.heap.size w w1 from by rw [hw1]; exact drewL HB.out q1)
          clear hw1
          go_wp2_with fail
          go_ret2
          exact ⟨.inr ⟨by rw [← HQR.out]; exact HN.out, _, rfl⟩, HB1.out⟩
        | some x =>
          have hv : sgnV (s.data.toList.drop k) = x := by unfold sgnV; rw [e]
          rw [hv] at hsg
          have hp := sgn_pos e
          rw [List.length_drop, len_data] at hp
          have hst := qr_step (out := out) e
          rw [HQR.out] at hst
          obtain ⟨c, n⟩ := x
          simp only at hsg hp hst
          have HSG := Lib.hid hsg
          have HST2 := Lib.hid hst.symm
          have hnB : ((n : Int) == 0) = false := by simp; omega
          have hn4 : (n : Int) ≤ 4 := by omega
          have hc0 : (0 : Int) ≤ (c.toNat : Int) := by omega
          have hc1 : (c.toNat : Int) ≤ 255 := by have := c.toNat_lt; omega
          have hkn : k + n ≤ s.size := by omega
          have hn1 : 1 ≤ n := hp.1
          clear hsg hst hv e hp
          go_wp2_with fail
          refine (HSG.out).mono ?_
          rintro e w1 ⟨rfl, q1, hw1⟩
          have hb1 : Below w.heap.size w w1 := by rw [hw1]; exact drewL HB.out q1
          have HB1 := Lib.hid hb1
          have HROW1 := Lib.hid (show w1.ownsRow w.heap.size 5 1 (.slice va L vc) L (u8s out) from by rw [hw1]; exact HROW.out)
          have hs1 := hb1.size
          clear hw1 hb1
          go_wp2_with (at_builtin; refine wpList_append_own_at _ rfl _ _ 30 rfl w.heap.size 5 i0 (.int .u8 0) 1 1 Tryd.underlying30 hi hz0 hz1 hz2 rfl (by decide) (.slice va L vc) _ _ rfl (HROW1.out.alloc _) ⟨w1.heap.size, 0, none⟩ 1 1 [.int .u8 (c.toNat : Int)] rfl rfl (cell_one_new _ _ _) (by simp [Value.oneCell']) (by unfold maxLen; omega) (by omega) (by simp; omega) ?_; intro v7 w7 hown7 hgrow7 _ hblk7; rw [u8s_one] at hown7; have HI7 := Lib.hid (show QI w s (k + n) (out ++ [c]) v7 w7 from ⟨by rw [List.length_append, HL.out]; exact hown7, by rw [List.length_append, HL.out]; simp; omega, (HB1.out.alloc HB1.out.size _).grown hgrow7 (by simp; omega) (fun j hj => (HROW1.out.lt j hj).1)⟩); clear hown7 hgrow7 hblk7)
          go_roundw
          case rel => exact ⟨k + n, out ++ [c], by omega, hkn, by go_num, HST2.out, HI7.out⟩
          case measure => simp [intOf]; omega
      · have hB2 : decide ((k : Int) < (s.size : Int) - 1) = false := decide_eq_false (by omega)
        have HB := Lib.hid HQI.out.fr
        have hcv : ∀ n, (convert 30 9 (.slice va L vc)).run Tryd.prog (wr.drewN n) = .ok (.string ⟨out.toArray⟩) (wr.drewN n) := fun n => own_text HL.out (show (wr.drewN n).ownsRow w.heap.size 5 1 (.slice va L vc) L (u8s out) from HROW.out)
        have hcv0 : (convert 30 9 (.slice va L vc)).run Tryd.prog wr = .ok (.string ⟨out.toArray⟩) wr := own_text HL.out HROW.out
        have hk0 : (0 : Int) ≤ k := by omega
        by_cases hke : k + 1 = s.size
        · have hE : ((k : Int) == (s.size : Int) - 1) = true := by simp; omega
          have hlk : k < s.size := by omega
          have hki : (k : Int) < s.size := by omega
          have hdr : s.data.toList.drop k = [s[k]] := by rw [drop_cons s hlk, drop_end s (by omega)]
          have hla := qr_last (out := out) hdr (by rw [len_data]; exact hke)
          rw [HQR.out] at hla
          by_cases hc : s[k] = 34
          · have hcB : (((s[k].toNat : Nat) : Int) == 34) = true := by rw [hc]; rfl
            rw [if_pos hc] at hla
            have HLA := Lib.hid hla
            clear hla hdr hc hke
            go_wp2_with fail
            go_quiet (fail)
            go_wp2_with fail
            go_ret2
            exact ⟨.inl ⟨out, HLA.out, rfl⟩, drewL HB.out _⟩
          · have hcB : (((s[k].toNat : Nat) : Int) == 34) = false := by
              rw [beq_eq_false_iff_ne]
              intro q
              apply hc
              apply UInt8.toNat_inj.1
              exact Int.ofNat.inj q
            rw [if_neg hc] at hla
            have HLA := Lib.hid hla
            clear hla hdr hc hke
            go_wp2_with fail
            go_quiet (fail)
            go_wp2_with fail
            go_ret2
            exact ⟨.inr ⟨HLA.out, _, rfl⟩, drewL HB.out _⟩
        · have hE : ((k : Int) == (s.size : Int) - 1) = false := by rw [beq_eq_false_iff_ne]; omega
          have hen := qr_end (l := s.data.toList) (k := k) (out := out) (by rw [len_data]; omega)
          rw [HQR.out] at hen
          have HEN := Lib.hid hen
          clear hen hke
          go_wp2_with fail
          go_quiet (fail)
          go_wp2_with fail
          go_ret2
          exact ⟨.inr ⟨HEN.out, _, rfl⟩, drewL HB.out _⟩
  · have hB : (((s[0].toNat : Nat) : Int) != 34) = true := by simp; omega
    have hq : quotedL s.data.toList = none := by rw [hl]; exact quotedL_no h34
    have HQ := Lib.hid hq
    clear hq hl h34 h2
    go_enter Tryd.func51, Tryd.ntmps51
    go_wp2_with fail
    go_ret2
    exact ⟨.inr ⟨HQ.out, _, rfl⟩, Below.refl _ _⟩
end Go.Proofs.YtphhokpbkcdljaaDoor
