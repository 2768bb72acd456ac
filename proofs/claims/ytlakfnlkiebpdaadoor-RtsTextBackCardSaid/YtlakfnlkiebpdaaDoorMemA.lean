/- The contract of Alloc, object by object. Conditions: the memory lies as Mem says. -/
import Derived.Test.YtlakfnlkiebpdaaDoorMemG
import Derived.Deep.RegionLaw
namespace Go.Proofs.YtlakfnlkiebpdaaDoor
open Go Go.RowKit
theorem int0_any (w : World) : Calls Tryd.prog 83 #[.int .i64 0] w fun e w' => e = .returned (.int .u64 1) ∧ w' = w := by
  have h : bits BinOp.or IntKind.u64 0 1 = 1 := by decide
  go_enter Tryd.func83, Tryd.ntmps83
  go_wp2
  go_ret
  exact ⟨ret_int h, rfl⟩
section
variable {w : World} {b W h : Nat} {R : Nat → Value} {now old : List Ob}
set_option maxHeartbeats 1000000 in
theorem alloc_head (k s t : Int) (hr : rightB k s t = false) (a : Addr) : Calls Tryd.prog 42 #[.pointer (some a), .int .i64 k, .int .i64 s, .int .i64 t] w fun e w' => e = .returned (.tuple #[.int .i64 0, .int .i64 22]) ∧ w' = w := by
  have HC := Lib.hid (fun W => header_no k s t hr W)
  clear hr
  go_enter Tryd.func42, Tryd.ntmps42
  go_wp2_with fail
  refine (HC.out _).mono ?_
  rintro e w' ⟨rfl, rfl⟩
  go_wp2_with fail
  go_ret2
  exact ⟨rfl, rfl⟩
set_option maxRecDepth 100000 in
set_option maxHeartbeats 1000000 in
theorem alloc_full (m : Mem w b W h R now old) (z : WF W h now old) (k s t : Int) (hr : rightB k s t = true) (hf : (W : Int) - used now < s + 1) : Calls Tryd.prog 42 #[.pointer (some ⟨b, 0, none⟩), .int .i64 k, .int .i64 s, .int .i64 t] w fun e w' => e = .returned (.tuple #[.int .i64 0, .int .i64 21]) ∧ ∃ n, w' = w.drewN n := by
  have HC := Lib.hid (fun W => header_yes k s t hr W)
  obtain ⟨_, _, s0, s1, _, _⟩ := right_bd hr
  have hfr := free_any m z.sizes
  rw [rows_cells, half_now, flat_length] at hfr
  have HF := Lib.hid hfr
  clear hr m z hfr
  go_enter Tryd.func42, Tryd.ntmps42
  go_wp2_with fail
  refine (HC.out _).mono ?_
  rintro e w' ⟨rfl, rfl⟩
  go_wp2_with fail
  refine HF.out.mono ?_
  rintro e w1 ⟨rfl, n, rfl⟩
  go_wp2_with fail
  go_ret2
  exact ⟨rfl, n, rfl⟩
theorem grow_to {w : World} {v : Value} {n k : Nat} {xs : List Value} (K : Int) (hK : K = (k : Nat)) (hown : w.ownsRow 0 33 1 v n xs) (hk : 1 ≤ k) (hk2 : n + k ≤ 1000000) :
    Calls Tryd.prog 82 #[v, .int .i64 K] w fun e w' => (∃ a c, e = .returned (.slice a n c) ∧ w'.ownsRow 0 33 1 (.slice a n c) n xs ∧ ∀ g, (Value.slice a n c).ownBlock = some g → v.ownBlock = some g ∨ w.heap.size ≤ g) ∧ Fr (fun _ => False) w w' := by
  subst hK
  refine (grow_any hown hk hk2).mono ?_
  rintro e w' ⟨⟨v', rfl, h1, h2⟩, h3⟩
  rcases h1.2 with ⟨rfl, rfl⟩ | ⟨g, cap, cur, rfl, _⟩
  · exact ⟨⟨_, _, rfl, h1, h2⟩, h3⟩
  · exact ⟨⟨_, _, rfl, h1, h2⟩, h3⟩
/-- from a world w in which O were the own blocks a world wr has come, with a memory at b of rows R1 -/
structure ST (w : World) (O : Nat → Prop) (b W h : Nat) (L : Nat → List Nat) (wr : World) (R1 : Nat → Value) : Prop where
  m : MemV wr b W h R1 L
  sub : ∀ i, Own b R1 i → O i ∨ w.heap.size ≤ i
  fr : Fr O w wr
theorem ST.ms {O : Nat → Prop} {L : Nat → List Nat} {wr : World} {R1 : Nat → Value} (s : ST w O b W h L wr R1) : MS w O wr b W h L := ⟨R1, s.m, s.sub, s.fr⟩
theorem ST.drewN {O : Nat → Prop} {L : Nat → List Nat} {wr : World} {R1 : Nat → Value} (s : ST w O b W h L wr R1) (n : Nat) : ST w O b W h L (wr.drewN n) R1 := ⟨s.m.drewN n, s.sub, s.fr.drewN n⟩
theorem ST.congr {O : Nat → Prop} {L L' : Nat → List Nat} {wr : World} {R1 : Nat → Value} (s : ST w O b W h L wr R1) (e : ∀ r, r < 4 → L r = L' r) : ST w O b W h L' wr R1 := ⟨s.m.congr e, s.sub, s.fr⟩
theorem ST.put {O : Nat → Prop} {L : Nat → List Nat} {wr w1 : World} {R1 : Nat → Value} (s : ST w O b W h L wr R1) {r : Nat} (hr : r < 4) {v : Value} {l : List Nat} (hf : Fr (fun i => (R1 r).ownBlock = some i) wr w1) (hv : w1.ownsRow 0 33 1 v l.length (u64s l)) (hs : ∀ g, v.ownBlock = some g → (R1 r).ownBlock = some g ∨ wr.heap.size ≤ g) :
    ST w O b W h (upd L r l) (w1.setCell ⟨b, 2 + r, none⟩ v) (upd R1 r v) := by
  obtain ⟨a1, a2, a3⟩ := s.m.put_row hr hf hv hs
  refine ⟨a1, fun i hi => ?_, s.fr.trans a3 s.sub⟩
  rcases a2 i hi with a | a
  · exact s.sub i a
  · exact .inr (Nat.le_trans s.fr.size a)
theorem ST.step {O : Nat → Prop} {L L' : Nat → List Nat} {wr w1 : World} {R1 : Nat → Value} (s : ST w O b W h L wr R1) (hm : MS wr (Own b R1) w1 b W h L') : ∃ R2, ST w O b W h L' w1 R2 := by
  obtain ⟨R2, m2, h2, f2⟩ := hm
  refine ⟨R2, m2, fun i hi => ?_, s.fr.trans f2 s.sub⟩
  rcases h2 i hi with a | a
  · exact s.sub i a
  · exact .inr (Nat.le_trans s.fr.size a)
theorem cell_one_at (w : World) (x : Value) (t : TypeId) (g : Nat) (hg : w.heap.size = g) : ∀ j u, [x][j]? = some u → (w.alloc (.cells #[x] t)).cell? ((⟨g, 0, none⟩ : Addr).add j) = some u := by
  subst hg; exact cell_one_new w x t
/-- what the walk asks of the row r ahead of an append or a Grow -/
theorem ST.row {O : Nat → Prop} {L : Nat → List Nat} {wr : World} {R1 : Nat → Value} (s : ST w O b W h L wr R1) {r : Nat} (hr : r < 4) : ∃ a cap, R1 r = .slice a (L r).length cap ∧ wr.cell? ⟨b, 2 + r, none⟩ = some (.slice a (L r).length cap) ∧ wr.frozen? ⟨b, 2 + r, none⟩ = false ∧ wr.ownsRow 0 33 1 (.slice a (L r).length cap) (L r).length (u64s (L r)) ∧ (L r).length ≤ cap ∧ cap ≤ 9223372036854775807 := by
  obtain ⟨a, cap, hv, h1, h2⟩ := s.m.shape hr
  exact ⟨a, cap, hv, (s.m.cr r hr).trans (by rw [hv]), s.m.fz _, by rw [← hv]; exact s.m.own r hr, h1, h2⟩
theorem ST.far {O : Nat → Prop} {L : Nat → List Nat} {wr w1 : World} {R1 : Nat → Value} (s : ST w O b W h L wr R1) {r : Nat} (hr : r < 4) (hf : Fr (fun i => (R1 r).ownBlock = some i) wr w1) : (∀ o v, wr.cell? ⟨b, o, none⟩ = some v → w1.cell? ⟨b, o, none⟩ = some v) ∧ (∀ o, w1.frozen? ⟨b, o, none⟩ = false) :=
  ⟨fun o _ hv => hf.cell_some (p := ⟨b, o, none⟩) hv (s.m.far r hr), fun o => (hf.frozen (p := ⟨b, o, none⟩) s.m.lt (s.m.far r hr)).trans (s.m.fz o)⟩
/-- an append to a row, and the store of what it gives -/
theorem ST.app {O : Nat → Prop} {L : Nat → List Nat} {wr w1 : World} {R1 : Nat → Value} (s : ST w O b W h L wr R1) {r : Nat} (hr : r < 4) {u v' : Value} (hv : R1 r = u) {tmp : Obj} {n : Nat} {l : List Nat} (hn : l.length = n) (hown : w1.ownsRow 0 33 1 v' n (u64s l)) (hgrow : (wr.alloc tmp).grownBy w1 u.ownBlock) (hblk : v'.ownBlock = u.ownBlock ∨ v'.ownBlock = some (wr.alloc tmp).heap.size) :
    w1.cell? ⟨b, 2 + r, none⟩ = some u ∧ w1.frozen? ⟨b, 2 + r, none⟩ = false ∧ ST w O b W h (upd L r l) (w1.setCell ⟨b, 2 + r, none⟩ v') (upd R1 r v') := by
  subst hv hn
  have hfr := app_fr (R := R1) hgrow
  obtain ⟨q1, q2⟩ := s.far hr hfr
  refine ⟨q1 _ _ (s.m.cr r hr), q2 _, s.put hr hfr hown fun g hg => ?_⟩
  rcases hblk with e | e
  · left; rw [← e]; exact hg
  · right
    rw [e] at hg
    have := Option.some.inj hg
    simp at this
    omega
theorem u64s_snoc (l : List Nat) (x : Nat) : u64s l ++ [Value.int .u64 (x : Int)] = u64s (l ++ [x]) := by rw [u64s_append]; rfl
theorem ST.drew {O : Nat → Prop} {L : Nat → List Nat} {wr : World} {R1 : Nat → Value} (s : ST w O b W h L wr R1) : ST w O b W h L wr.drew R1 := s.drewN 1
theorem blk_of {g n cap H : Nat} {u : Value} {W1 : World} (h : u.ownBlock = some g ∨ g = H) (hH : W1.heap.size = H) : (Value.slice (some ⟨g, 0, none⟩) n cap).ownBlock = u.ownBlock ∨ (Value.slice (some ⟨g, 0, none⟩) n cap).ownBlock = some W1.heap.size := by
  rcases h with e | e
  · left; rw [e]; rfl
  · right; rw [hH, ← e]; rfl
theorem u64s_rep (l : List Nat) (H q x : Nat) : u64s (l ++ H :: List.replicate q x) ++ [Value.int .u64 (x : Int)] = u64s (l ++ H :: List.replicate (q + 1) x) := by
  rw [u64s_snoc, List.replicate_succ', List.append_assoc, List.cons_append]
theorem rep_snoc (l c : List Nat) (p : Nat) : u64s (l ++ (c ++ List.replicate p 0)) ++ [Value.int .u64 ((0 : Nat) : Int)] = u64s (l ++ (c ++ List.replicate (p + 1) 0)) := by
  rw [u64s_snoc, List.replicate_succ', List.append_assoc, List.append_assoc]
def newOb (k s t : Nat) : Ob := ⟨k, t, List.replicate t 1 ++ List.replicate (s - t) 0, 0⟩
/-- the rows while the new object's fields are laid: f words so far -/
def rowsA (h : Nat) (now old : List Ob) (M f : List Nat) : Nat → List Nat := upd (upd (rowsOf h now old) (h * 2 + 1) M) (h * 2) (flat now ++ f)
theorem rowsA_cells (M f : List Nat) : rowsA h now old M f (h * 2) = flat now ++ f := upd_same _ _ _
theorem rowsA_upd (M f g : List Nat) (r : Nat) : upd (rowsA h now old M f) (h * 2) (flat now ++ g) r = rowsA h now old M g r := by
  unfold rowsA
  by_cases e : r = h * 2
  · subst e; rw [upd_same, upd_same]
  · rw [upd_other _ _ e, upd_other _ _ e, upd_other _ _ e]
theorem rowsA_end {k s t : Nat} (hts : t ≤ s) (r : Nat) : rowsA h now old (markAt (marksL now) (used now)) (hdr k s t :: (List.replicate t 1 ++ List.replicate (s - t) 0)) r = rowsOf h (now ++ [newOb k s t]) old r := by
  unfold rowsA
  by_cases e : r = h * 2
  · subst e
    rw [upd_same, rows_cells, half_now, flat_append]
    have hl : (newOb k s t).ws.length = s := by simp [newOb]; omega
    show _ = flat now ++ ((newOb k s t).hw :: (newOb k s t).ws ++ [])
    rw [List.append_nil]
    have hw : (newOb k s t).hw = hdr k s t := by
      unfold Ob.hw
      rw [hl]
      rfl
    rw [hw]
    rfl
  · rw [upd_other _ _ e]
    by_cases e2 : r = h * 2 + 1
    · subst e2
      rw [upd_same, rows_marks, half_now, marksL_snoc]
    · rw [upd_other _ _ e2]
      unfold rowsOf
      have q : ¬ r / 2 = h := by omega
      rw [if_neg q, if_neg q]
set_option maxRecDepth 100000 in
set_option maxHeartbeats 4000000 in
theorem alloc_ok (m : Mem w b W h R now old) (z : WF W h now old) (k s t : Nat) (hr : rightB k s t = true) (hf : used now + s + 1 ≤ W) : Calls Tryd.prog 42 #[.pointer (some ⟨b, 0, none⟩), .int .i64 k, .int .i64 s, .int .i64 t] w fun e w' => e = .returned (.tuple #[.int .i64 (adr h W (used now)), .int .i64 0]) ∧ MS w (Own b R) w' b W h (rowsOf h (now ++ [newOb k s t]) old) := by
  obtain ⟨i0, hi, hz0, hz1, hz2⟩ := info_parts infoU64
  have hhd := fun W => header_yes k s t hr W
  obtain ⟨_, _, s0, s1, t0, t1⟩ := right_bd hr
  obtain ⟨H, hH⟩ : ∃ H : Nat, hdr k s t = H := ⟨_, rfl⟩
  have hHI : hdrI k s t = (H : Int) := by rw [← hH]; unfold hdrI hdr; omega
  rw [hHI] at hhd
  have HH := Lib.hid hH
  have HC := Lib.hid hhd
  have hW1 := z.w1
  have hh := z.hh
  have hfr := free_any m z.sizes
  rw [rows_cells, half_now, flat_length] at hfr
  have HF := Lib.hid hfr
  obtain ⟨A, hA⟩ : ∃ A, adr h W (used now) = A := ⟨_, rfl⟩
  rw [hA]
  have HA := Lib.hid hA
  have HM := Lib.hid m
  have HZ := Lib.hid z
  have HTS := Lib.hid (show t ≤ s by omega)
  obtain ⟨u, hu⟩ : ∃ u, used now = u := ⟨_, rfl⟩
  have HU := Lib.hid hu
  rw [hu] at HF hf
  obtain ⟨MM, hMM⟩ : ∃ MM, markAt (marksL now) (used now) = MM := ⟨_, rfl⟩
  have HMM := Lib.hid hMM
  clear hr hfr m z hA hhd hHI hH hu hMM
  go_enter Tryd.func42, Tryd.ntmps42
  go_wp2_with fail
  refine (HC.out _).mono ?_
  rintro e w' ⟨rfl, rfl⟩
  go_wp2_with fail
  refine HF.out.mono ?_
  rintro e w1 ⟨rfl, n, hn⟩
  have S1 : ST w (Own b R) b W h (rowsOf h now old) w1 R := by rw [hn]; exact ⟨HM.out.drewN n, fun _ h => .inl h, (Fr.refl _ _).drewN n⟩
  have HS1 := Lib.hid S1
  have c1 := S1.m.c1
  have hh0 : (0 : Int) ≤ h := by omega
  have hh1 : (h : Int) < 2 := by omega
  clear hn S1
  go_wp2_with fail
  have hnx : ∀ n', Calls Tryd.prog 19 #[.pointer (some ⟨b, 0, none⟩)] (w1.drewN n') fun e w' => e = .returned (.int .i64 A) ∧ ∃ m, w' = (w1.drewN n').drewN m := fun n' => by
    have := next_any (HS1.out.m.drewN n') HZ.out.sizes
    rw [rows_cells, half_now, flat_length, HA.out] at this
    exact this
  have HNX := Lib.hid hnx
  clear hnx
  go_quiet ((go_at_call 19; refine Calls.quiet_of (HNX.out _)))
  go_wp2_with fail
  refine (mark_any (HS1.out.drewN nq).m HZ.out.sizes).mono ?_
  rintro e w2 ⟨rfl, hms⟩
  rw [rows_cells, rows_marks, half_now, flat_length, HMM.out] at hms
  obtain ⟨R2, S2⟩ := (HS1.out.drewN nq).step hms
  have S2' : ST w (Own b R) b W h (rowsA h now old MM []) w2 R2 := S2.congr fun r _ => by
    unfold rowsA
    rw [List.append_nil]
    by_cases e : r = h * 2
    · subst e; rw [upd_same, upd_other _ _ (by omega), rows_cells, half_now]
    · rw [upd_other (r := h * 2) _ _ e]
  have HS2 := Lib.hid S2'
  obtain ⟨a2, cap2, hv2, hc2, hf2, hown2, hle2, hcm2⟩ := S2'.row (r := h * 2) (by omega)
  have hlen2 : (rowsA h now old MM [] (h * 2)).length = u := by rw [rowsA_cells, List.append_nil, flat_length, HU.out]
  rw [hlen2] at hv2 hc2 hown2 hle2
  have HV2 := Lib.hid hv2
  have HO2 := Lib.hid hown2
  clear hms S2 S2' hv2 hown2 hlen2
  go_wp2_with fail
  refine (grow_to (k := s + 1) _ (by omega) HO2.out (by omega) (by omega)).mono ?_
  rintro e w3 ⟨⟨a3, cap3, rfl, hown3, hblk3⟩, hfr3⟩
  have hfr3' : Fr (fun i => (R2 (h * 2)).ownBlock = some i) w2 w3 := hfr3.mono (fun _ h => h.elim)
  obtain ⟨q1, q2⟩ := HS2.out.far (r := h * 2) (by omega) hfr3'
  have c3 := q1 _ _ hc2
  have f3 := q2 (2 + h * 2)
  have hfl : (flat now ++ []).length = u := by rw [List.append_nil, flat_length, HU.out]
  have S3 := HS2.out.put (r := h * 2) (by omega) (v := .slice a3 u cap3) (l := flat now ++ []) hfr3' (by rw [hfl]; rw [rowsA_cells] at hown3; exact hown3) (by rw [HV2.out]; exact hblk3)
  have S3' := S3.congr fun r _ => rowsA_upd (h := h) (now := now) (old := old) MM [] [] r
  have HS3 := Lib.hid S3'
  obtain ⟨a4, cap4, hv4, hx4, hy4, hown4, hle4, hcm4⟩ := S3'.row (r := h * 2) (by omega)
  clear hx4 hy4
  rw [upd_same] at hv4
  rw [rowsA_cells, hfl] at hv4 hown4 hle4
  injection hv4 with e1 e3 e2
  clear e3
  subst e1 e2
  have HO4 := Lib.hid hown4
  have HFL := Lib.hid hfl
  clear hfr3 hfr3' q1 q2 hblk3 hown3 S3 S3' hown4 c1 hc2 hf2 hfl
  go_wp2_with (at_builtin; refine wpList_append_own_at _ rfl _ _ 43 rfl 0 33 i0 (.int .u64 0) 1 8 Tryd.underlying43 hi hz0 hz1 hz2 rfl (by decide) (.slice a3 u cap3) _ _ rfl (HO4.out.alloc _) ⟨w3.heap.size, 0, none⟩ 1 1 [.int .u64 H] rfl rfl (cell_one_at _ _ _ _ (by simp)) (by simp [Value.oneCell']) (by unfold maxLen; omega) (by omega) (Nat.zero_le _) ?_; intro v5 w5 hown5 hgrow5 _ hblk5; rw [u64s_snoc, List.append_assoc] at hown5; obtain ⟨g5, cap5, rfl⟩ := ownsRow_succ (k := u) hown5; obtain ⟨x5, y5, S5⟩ := HS3.out.app (r := h * 2) (by omega) (upd_same _ _ _) (by rw [List.length_append, flat_length, HU.out]; rfl) hown5 hgrow5 hblk5; have HS5 := Lib.hid (S5.congr fun r _ => rowsA_upd (h := h) (now := now) (old := old) MM [] [H] r); clear S5 hown5 hgrow5 hblk5)
  go_loopw [64] (fun i wr => ∃ (q : Nat) (Rq : Nat → Value), q ≤ t ∧ i = .int .i64 q ∧ ST w (Own b R) b W h (rowsA h now old MM (H :: List.replicate q 1)) wr Rq) (fun i _ => t - (intOf i).toNat)
  case atStart => exact ⟨0, _, Nat.zero_le _, rfl, HS5.out⟩
  case round =>
    obtain ⟨q, Rq, hq, rfl, Sq⟩ := hrel
    have HSq := Lib.hid Sq
    obtain ⟨aq, capq, hvq, hcq, hfq, hownq, hleq, hcmq⟩ := Sq.row (r := h * 2) (by omega)
    have hlq : (rowsA h now old MM (H :: List.replicate q 1) (h * 2)).length = u + q + 1 := by rw [rowsA_cells, List.length_append, flat_length, HU.out]; simp; omega
    rw [hlq] at hvq hcq hownq hleq
    rw [rowsA_cells] at hownq
    have HVq := Lib.hid hvq
    have HOq := Lib.hid hownq
    have hbl := Sq.m.lt
    clear Sq hvq hownq hlq
    by_cases hlt : q < t
    · have hus : u + q + 2 ≤ 100000 := by omega
      go_wp2_with fail
      go_region_law ((first
        | (refine step_append_lies _ (by rfl) _ _ 43 (by rfl) 0 33 i0 (.int .u64 0) 1 8 Tryd.underlying43 hi hz0 hz1 hz2 rfl (by decide) (.slice aq (u + q + 1) capq) _ _ (by rfl) ((HOq.out.drew).alloc _) ⟨wr.heap.size, 0, none⟩ 1 1 [.int .u64 1] (by rfl) rfl (cell_one_at _ _ _ _ (by simp)) (by simp [Value.oneCell']) (by omega) (by unfold maxLen; omega) (by omega) (Nat.zero_le _) (wr.heap.size + 1) (by simp) ?_; intro g6 cap6 w6 hown6 hgrow6 hblk6 hlt6; rw [show (Value.int .u64 1) = Value.int .u64 ((1 : Nat) : Int) from rfl, u64s_rep] at hown6; obtain ⟨x6, y6, S6⟩ := HSq.out.drew.app (r := h * 2) (by omega) HVq.out (by rw [List.length_append, flat_length, HU.out]; simp; omega) hown6 hgrow6 (blk_of hblk6 (by simp)); have HS6 := Lib.hid (S6.congr fun r _ => rowsA_upd (h := h) (now := now) (old := old) MM _ _ r); clear S6 hown6 hgrow6 hblk6)
        | (go_simp; go_at_call 83; refine (int0_any _).mono ?_; rintro e w' ⟨rfl, rfl⟩)))
      all_goals
        go_wp2_with fail
        go_roundw
        case rel => exact ⟨q + 1, _, hlt, by go_num, HS6.out⟩
        case measure => simp [intOf]; omega
    · obtain rfl : q = t := by omega
      have hts := HTS.out
      have hq0 : ¬ (q : Int) < q := by omega
      clear hcq hfq hleq hcmq hbl HOq HVq
      go_wp2_with fail
      go_loopw [80] (fun i wr => ∃ (p : Nat) (Rp : Nat → Value), p ≤ s - q ∧ i = .int .i64 p ∧ ST w (Own b R) b W h (rowsA h now old MM ((H :: List.replicate q 1) ++ List.replicate p 0)) wr Rp) (fun i _ => (s - q) - (intOf i).toNat)
      case atStart => exact ⟨0, _, Nat.zero_le _, rfl, by rw [List.replicate_zero, List.append_nil]; exact HSq.out⟩
      case round =>
        obtain ⟨p, Rp, hp, rfl, Sp⟩ := hrel
        by_cases hlt2 : p < s - q
        · have HSp := Lib.hid Sp
          obtain ⟨ap, capp, hvp, hcp, hfp, hownp, hlep, hcmp⟩ := Sp.row (r := h * 2) (by omega)
          have hlp : (rowsA h now old MM ((H :: List.replicate q 1) ++ List.replicate p 0) (h * 2)).length = u + q + 1 + p := by rw [rowsA_cells, List.length_append, flat_length, HU.out]; simp; omega
          rw [hlp] at hvp hcp hownp hlep
          rw [rowsA_cells] at hownp
          have HVp := Lib.hid hvp
          have HOp := Lib.hid hownp
          have hbl := Sp.m.lt
          clear Sp hvp hownp hlp
          have hus : u + q + p + 2 ≤ 100000 := by omega
          go_wp2_with (at_builtin; refine wpList_append_own_at _ rfl _ _ 43 rfl 0 33 i0 (.int .u64 0) 1 8 Tryd.underlying43 hi hz0 hz1 hz2 rfl (by decide) (.slice ap (u + q + 1 + p) capp) _ _ rfl (HOp.out.alloc _) ⟨_, 0, none⟩ 1 1 [.int .u64 0] rfl rfl (cell_one_new _ _ _) (by simp [Value.oneCell']) (by unfold maxLen; omega) (by omega) (Nat.zero_le _) ?_; intro v7 w7 hown7 hgrow7 _ hblk7; rw [show (Value.int .u64 0) = Value.int .u64 ((0 : Nat) : Int) from rfl, rep_snoc] at hown7; obtain ⟨g7, cap7, rfl⟩ := ownsRow_succ (k := u + q + 1 + p) hown7; obtain ⟨x7, y7, S7⟩ := HSp.out.app (r := h * 2) (by omega) HVp.out (n := u + q + 1 + p + 1) (l := flat now ++ ((H :: List.replicate q 1) ++ List.replicate (p + 1) 0)) (by rw [List.length_append, flat_length, HU.out]; simp; omega) hown7 hgrow7 hblk7; have HS7 := Lib.hid (S7.congr fun r _ => rowsA_upd (h := h) (now := now) (old := old) MM _ _ r); clear S7 hown7 hgrow7 hblk7)
          go_roundw
          case rel => exact ⟨p + 1, _, hlt2, by go_num, HS7.out⟩
          case measure => simp [intOf]; omega
        · obtain rfl : p = s - q := by omega
          have HE := Lib.hid (show MS w (Own b R) wr b W h (rowsOf h (now ++ [newOb k s q]) old) from (Sp.congr fun r _ => by
            rw [← rowsA_end (h := h) (now := now) (old := old) (k := k) hts r, HMM.out, HH.out]; rfl).ms)
          clear Sp
          go_wp2_with fail
          go_ret2
          exact ⟨rfl, HE.out⟩
end
end Go.Proofs.YtlakfnlkiebpdaaDoor
