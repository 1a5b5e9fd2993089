/-
  ReadyNodes: the nodes that may begin.
-/
import Derived.Test.YtdecceekodpjiaaDoorDBeh
namespace Go.Proofs.YtdecceekodpjiaaDoor
open Go.RowKit

set_option maxRecDepth 100000 in
set_option maxHeartbeats 1000000 in
theorem marked_any (w : World) (a : Option Addr) (c : Nat) (l : List Bool) (hm : l.length ≤ 1000000) (h : CellsAt w a (l.map Value.bool)) (i : Nat) :
    Calls Tryd.prog 61 #[.slice a l.length c, .int .i64 i] w fun e w' => e = .returned (.bool (l.getD i false)) ∧ w' = w := by
  by_cases hlt : i < l.length
  · have e0 : (i : Int) < (l.length : Int) := by omega
    have hx : ∃ b o, a = some ⟨b, o, none⟩ ∧ w.cell? ⟨b, o + i, none⟩ = some (.bool l[i]) := by
      rcases h with h | ⟨b, o, h, hc⟩
      · simp at h; subst h; simp at hlt
      · exact ⟨b, o, h, hc i _ (by simp [hlt])⟩
    obtain ⟨b, o, rfl, x0⟩ := hx
    have hg : l.getD i false = l[i] := by simp [List.getD_eq_getElem?_getD, hlt]
    rw [hg]
    clear hg
    generalize l[i] = v at *
    clear h
    go_enter Tryd.func61, Tryd.ntmps61
    go_wp2
    go_ret
    exact ⟨rfl, rfl⟩
  · have e0 : ¬ (i : Int) < (l.length : Int) := by omega
    have hg : l.getD i false = false := by simp [List.getD_eq_getElem?_getD, Nat.le_of_not_lt hlt]
    rw [hg]
    clear hg
    clear h
    go_enter Tryd.func61, Tryd.ntmps61
    go_wp2
    go_ret
    exact ⟨rfl, rfl⟩

/-- One name of a node's After is over. -/
def oneP (ns : List Nd) (n : Nd) (l : List Bool) (s : ByteArray) : Bool := match aheadP ns n s with | some j => l.getD j false | none => false
def overP (ns : List Nd) (n : Nd) (l : List Bool) : Bool := n.after.all (oneP ns n l)

theorem over_next {ns : List Nd} {n : Nd} {l : List Bool} {k : Nat} (hk : k < n.after.length) (h : (n.after.take k).all (oneP ns n l) = true) (h1 : oneP ns n l n.after[k] = true) : (n.after.take (k + 1)).all (oneP ns n l) = true := by
  rw [List.take_add_one, List.getElem?_eq_getElem hk, Option.toList_some, List.all_append, h]
  simp [h1]

theorem over_not {ns : List Nd} {n : Nd} {l : List Bool} {k : Nat} (hk : k < n.after.length) (h1 : oneP ns n l n.after[k] = false) : overP ns n l = false := by
  unfold overP
  rw [List.all_eq_false]
  exact ⟨n.after[k], List.getElem_mem hk, by simp [h1]⟩

set_option maxRecDepth 100000 in
set_option maxHeartbeats 2000000 in
theorem allOver_any (w : World) (mb : Nat) (ns : List Nd) (T : FirstAt w mb ns) (x : Nd) (av : Option Addr) (cv : Nat) (hT : TextsAt w (.slice av x.after.length cv) x.after) (hx : x.after.length ≤ 1000000)
    (ao : Option Addr) (co : Nat) (l : List Bool) (hl : l.length ≤ 1000000) (hc : CellsAt w ao (l.map Value.bool)) :
    Calls Tryd.prog 62 #[.agg #[.string x.name, .int .i64 x.kind, .string x.arg, .string x.to, .int .i64 x.delay, .int .i64 x.tries, .slice av x.after.length cv], .map (some mb), .slice ao l.length co] w fun e w' => e = .returned (.bool (overP ns x l)) ∧ Kept (fun _ => False) w w' := by
  have HM : Hid (∀ V, Kept (fun _ => False) w V → ∀ j : Nat, Calls Tryd.prog 61 #[.slice ao l.length co, .int .i64 j] V fun e w' => e = .returned (.bool (l.getD j false)) ∧ w' = V) := fun V K j => marked_any V ao co l hl (hc.kept K (fun _ _ h => h)) j
  have HF : Hid (FirstAt w mb ns) := T
  have HT : Hid (TextsAt w (.slice av x.after.length cv) x.after) := hT
  clear T hT hc
  go_enter Tryd.func62, Tryd.ntmps62
  go_wp2
  go_loopw [14] (fun q wr => ∃ (k : Nat), k ≤ x.after.length ∧ q = .int .i64 k ∧ Kept (fun _ => False) (w.alloc (.cells #[.string x.name, .int .i64 x.kind, .string x.arg, .string x.to, .int .i64 x.delay, .int .i64 x.tries, .slice av x.after.length cv] 32)) wr ∧ (x.after.take k).all (oneP ns x l) = true) (fun q _ => x.after.length - (intOf q).toNat)
  case atStart => exact ⟨0, Nat.zero_le _, rfl, Kept.refl _ _, by simp⟩
  case round =>
    obtain ⟨k, hk, rfl, K, hal⟩ := hrel
    have Kw : Kept (fun _ => False) w wr := (Kept.alloc (fun _ => False) _ _).and K
    obtain ⟨n0, n1, n2, n3, n4, n5, n6⟩ := boxN K
    by_cases hlk : k < x.after.length
    · have htx := HT.out.kept Kw (fun _ _ h => h)
      obtain ⟨a2, c2, hsl, hc2, hne⟩ := htx.at
      obtain ⟨rfl, rfl⟩ : av = a2 ∧ cv = c2 := by simpa using hsl
      obtain ⟨xb, xo, rfl, hcell⟩ := hne (fun e => by rw [e] at hlk; simp at hlk)
      have hck := hcell k hlk
      have hsm : (x.after[k]).size ≤ maxLen := by
        obtain ⟨_, _, _, _, _, _, h5⟩ := htx
        exact h5 _ (List.getElem_mem hlk)
      have e1 : (k : Int) < (x.after.length : Int) := by omega
      have hah := ahead_any wr mb ns (HF.out.kept Kw (fun h => h)) x.name x.kind x.arg x.to x.delay x.tries x.after (some ⟨xb, xo, none⟩) x.after.length cv (x.after[k]) hsm
      change Calls Tryd.prog _ _ _ (fun e w' => e = .returned (.tuple #[_, .bool (aheadP ns x (x.after[k])).isSome]) ∧ _) at hah
      have HNx : Hid (oneP ns x l x.after[k] = true → (x.after.take (k + 1)).all (oneP ns x l) = true) := over_next hlk hal
      have HNo : Hid (oneP ns x l x.after[k] = false → overP ns x l = false) := over_not hlk
      clear hsl hcell hne htx hal
      cases hap : aheadP ns x (x.after[k]) with
      | none =>
        rw [hap] at hah
        simp only [Option.isSome_none] at hah
        have HO : Hid (overP ns x l = false) := HNo.out (by unfold oneP; rw [hap])
        generalize (findP ns (x.after[k])).getD 0 = fjj at *
        clear hap HNx HNo
        generalize x.after[k] = s at *
        go_wp2_with (first
          | (go_at_call 70; refine hah.mono ?_; rintro e w5 ⟨rfl, K5⟩; clear hah)
          | fail)
        go_ret
        exact ⟨by rw [HO.out]; rfl, Kw.and K5⟩
      | some j =>
        rw [hap] at hah
        simp only [Option.isSome_some] at hah
        have hfj : findP ns (x.after[k]) = some j := by
          unfold aheadP at hap
          split at hap
          · cases hap
          · exact hap
        rw [hfj, Option.getD_some] at hah
        have hM := fun V (K : Kept (fun _ => False) w V) => HM.out V K j
        have ho : oneP ns x l x.after[k] = l.getD j false := by unfold oneP; rw [hap]
        cases hb : l.getD j false with
        | false =>
          have HO : Hid (overP ns x l = false) := HNo.out (by rw [ho, hb])
          rw [hb] at hM
          clear hap HNx HNo ho hfj hb
          generalize x.after[k] = s at *
          go_wp2_with (first
            | (go_at_call 70; refine hah.mono ?_; rintro e w5 ⟨rfl, K5⟩; clear hah)
            | (go_at_call 61; refine (hM _ (Kw.and K5)).mono ?_; rintro e w6 ⟨rfl, hw⟩; subst w6; clear hM)
            | fail)
          go_ret
          exact ⟨by rw [HO.out]; rfl, Kw.and K5⟩
        | true =>
          have HO : Hid ((x.after.take (k + 1)).all (oneP ns x l) = true) := HNx.out (by rw [ho, hb])
          rw [hb] at hM
          clear hap HNx HNo ho hfj hb
          generalize x.after[k] = s at *
          go_wp2_with (first
            | (go_at_call 70; refine hah.mono ?_; rintro e w5 ⟨rfl, K5⟩; clear hah)
            | (go_at_call 61; refine (hM _ (Kw.and K5)).mono ?_; rintro e w6 ⟨rfl, hw⟩; subst w6; clear hM)
            | fail)
          go_roundw
          case rel => exact ⟨k + 1, by omega, by go_num, K.and K5, HO.out⟩
          case measure => simp [intOf]; omega
    · obtain rfl : k = x.after.length := by omega
      rw [List.take_length] at hal
      have HO : Hid (overP ns x l = true) := hal
      clear hal
      go_wp2
      go_ret
      exact ⟨by rw [HO.out]; rfl, Kw⟩

/-- The nodes that may begin, among the first. -/
def rdyB (ns : List Nd) (lo lb : List Bool) (i : Nat) : Bool := !lb.getD i false && match ns[i]? with | some n => overP ns n lo | none => false
def rdyL (ns : List Nd) (lo lb : List Bool) (k : Nat) : List Nat := (List.range k).filter (rdyB ns lo lb)

theorem rdyL_hit {ns : List Nd} {lo lb : List Bool} {k : Nat} (h : rdyB ns lo lb k = true) : rdyL ns lo lb (k + 1) = rdyL ns lo lb k ++ [k] := by
  unfold rdyL
  rw [List.range_succ, List.filter_append]
  simp [h]

theorem rdyL_miss {ns : List Nd} {lo lb : List Bool} {k : Nat} (h : rdyB ns lo lb k = false) : rdyL ns lo lb (k + 1) = rdyL ns lo lb k := by
  unfold rdyL
  rw [List.range_succ, List.filter_append]
  simp [h]

theorem rdyL_len (ns : List Nd) (lo lb : List Bool) (k : Nat) : (rdyL ns lo lb k).length ≤ k := by
  unfold rdyL
  have := List.length_filter_le (rdyB ns lo lb) (List.range k)
  simpa using this

theorem natsV_snoc (l : List Nat) (i : Nat) : natsV (l ++ [i]) = natsV l ++ [.int .i64 (i : Nat)] := by unfold natsV; simp

set_option maxRecDepth 100000 in
set_option maxHeartbeats 4000000 in
theorem ready_any (w : World) (name : ByteArray) (a : Option Addr) (n c : Nat) (ns : List Nd) (hN : NodesAt w a ns) (hl : ns.length = n) (hn : n ≤ 1000000) (ao ab : Option Addr) (co cb : Nat) (lo lb : List Bool) (hlo : lo.length ≤ 1000000) (hlb : lb.length ≤ 1000000)
    (ho : CellsAt w ao (lo.map Value.bool)) (hb : CellsAt w ab (lb.map Value.bool)) :
    Calls Tryd.prog 47 #[.agg #[.string name, .slice a n c], .slice ao lo.length co, .slice ab lb.length cb] w fun e w' => ∃ av cv, e = .returned (.slice av (rdyL ns lo lb n).length cv) ∧ w'.ownsRow w.heap.size 3 1 (.slice av (rdyL ns lo lb n).length cv) (rdyL ns lo lb n).length (natsV (rdyL ns lo lb n)) ∧ Kept (fun _ => False) w w' := by
  subst hl
  obtain ⟨i0, hi0, hz0, hz1, hz2⟩ := info_parts Tryd.info3
  have hF := firsts_any (w.alloc (.cells #[.string name, .slice a ns.length c] 28)) name a ns.length c ns (keptNew (Kept.alloc _ _ _) hN) rfl (by omega)
  rw [World.size_alloc] at hF
  have HM : Hid (∀ V, Kept (fun _ => False) w V → ∀ j : Nat, Calls Tryd.prog 61 #[.slice ab lb.length cb, .int .i64 j] V fun e w' => e = .returned (.bool (lb.getD j false)) ∧ w' = V) := fun V K j => marked_any V ab cb lb hlb (hb.kept K (fun _ _ h => h)) j
  have HO : Hid (CellsAt w ao (lo.map Value.bool)) := ho
  have HN : Hid (NodesAt w a ns) := hN
  clear hN ho hb
  go_enter Tryd.func47, Tryd.ntmps47
  go_wp2_with (first
    | (go_at_call 60; refine hF.mono ?_; rintro e w1 ⟨rfl, F1, K1⟩; clear hF; have hd := boxD K1; obtain ⟨d0, d1⟩ := hd; have HF1 : Hid (FirstAt w1 (w.heap.size + 1 + 1) ns) := F1; have hmb : w.heap.size + 1 + 1 < w1.heap.size := (by obtain ⟨_, t⟩ := F1; exact t.lt); clear F1)
    | fail)
  have K0 : Hid (Kept (fun _ => False) w w1) := (Kept.alloc (fun _ => False) _ _).and K1
  clear K1
  go_loopw [16, 8] (fun q v wr => ∃ (k : Nat) (a8 : Option Addr) (c8 : Nat), k ≤ ns.length ∧ q = .int .i64 k ∧ v = .slice a8 (rdyL ns lo lb k).length c8 ∧ wr.ownsRow w1.heap.size 3 1 (.slice a8 (rdyL ns lo lb k).length c8) (rdyL ns lo lb k).length (natsV (rdyL ns lo lb k)) ∧ Kept (fun j => w1.heap.size ≤ j) w1 wr) (fun q _ _ => ns.length - (intOf q).toNat)
  case atStart => exact ⟨0, none, 0, Nat.zero_le _, rfl, rfl, World.ownsRow_nil _ _ _ _, Kept.refl _ _⟩
  case round =>
    obtain ⟨k, a8, c8, hk, rfl, rfl, OR, K⟩ := hrel
    have Kw : Kept (fun _ => False) w wr := K0.out.trans K (fun g h => .inr (by have := K0.out.size; omega))
    by_cases hlt : k < ns.length
    · obtain ⟨b, o, av, cv, rfl, hT, c0, c1, c2, c3, c4, c5, c6⟩ := (keptNew Kw HN.out).at hlt
      have hok := (HN.out.1 _ (List.getElem_mem hlt)).few
      have e0 : (k : Int) < (ns.length : Int) := by omega
      have hget := List.getElem?_eq_getElem hlt
      have hM := HM.out
      have hA := fun V (KV : Kept (fun _ => False) wr V) => allOver_any V (w.heap.size + 1 + 1) ns (HF1.out.kept (K.and (KV.mono (fun _ h => h.elim))) (by omega)) ns[k] av cv (hT.kept KV (fun _ _ h => h)) hok ao co lo hlo (HO.out.kept (Kw.and KV) (fun _ _ h => h))
      have hbk : rdyB ns lo lb k = (!lb.getD k false && overP ns ns[k] lo) := by unfold rdyB; rw [hget]
      have HH : Hid (rdyB ns lo lb k = true → rdyL ns lo lb (k + 1) = rdyL ns lo lb k ++ [k]) := rdyL_hit
      have HS : Hid (rdyB ns lo lb k = false → rdyL ns lo lb (k + 1) = rdyL ns lo lb k) := rdyL_miss
      have hlen := rdyL_len ns lo lb k
      have HOR : Hid (wr.ownsRow w1.heap.size 3 1 (.slice a8 (rdyL ns lo lb k).length c8) (rdyL ns lo lb k).length (natsV (rdyL ns lo lb k))) := OR
      clear hT hget OR
      generalize overP ns ns[k] lo = b2 at *
      generalize ns[k] = x at *
      generalize hT8 : rdyL ns lo lb k = T8 at *
      have hMk := fun V KV => hM V KV k
      generalize lb.getD k false = b1 at *
      clear hM
      cases b1 with
      | true =>
        have HB : Hid (rdyL ns lo lb (k + 1) = T8) := HS.out (by rw [hbk]; rfl)
        clear HH HS hbk hT8 hA
        go_wp2_with (first
          | (go_at_call 61; refine (hMk _ (Kw.and (Kept.alloc _ _ _))).mono ?_; rintro e w6 ⟨rfl, hw⟩; subst w6; clear hMk)
          | fail)
        go_roundw
        case rel => exact ⟨k + 1, a8, c8, by omega, by go_num, by rw [HB.out], by rw [HB.out]; exact ownsRow_keep HOR.out (fun g hg => (Kept.alloc (fun _ => False) _ _).block g (ownsRow_blk HOR.out hg) (fun h => h)), K.and (Kept.alloc _ _ _)⟩
        case measure => simp [intOf]; omega
      | false =>
        cases b2 with
        | false =>
          have HB : Hid (rdyL ns lo lb (k + 1) = T8) := HS.out (by rw [hbk]; rfl)
          clear HH HS hbk hT8
          have hA' := hA _ (Kept.alloc (fun _ => False) wr (.cells #[.string x.name, .int .i64 x.kind, .string x.arg, .string x.to, .int .i64 x.delay, .int .i64 x.tries, .slice av x.after.length cv] 32))
          clear hA
          go_wp2_with (first
            | (go_at_call 61; refine (hMk _ (Kw.and (Kept.alloc _ _ _))).mono ?_; rintro e w6 ⟨rfl, hw⟩; subst w6; clear hMk)
            | (go_at_call 62; refine hA'.mono ?_; rintro e w6 ⟨rfl, K6⟩; clear hA')
            | fail)
          have KK : Kept (fun _ => False) wr w6 := (Kept.alloc (fun _ => False) _ _).and K6
          go_roundw
          case rel => exact ⟨k + 1, a8, c8, by omega, by go_num, by rw [HB.out], by rw [HB.out]; exact ownsRow_keep HOR.out (fun g hg => KK.block g (ownsRow_blk HOR.out hg) (fun h => h)), K.and (KK.mono (fun _ h => h.elim))⟩
          case measure => simp [intOf]; omega
        | true =>
          have HB : Hid (rdyL ns lo lb (k + 1) = T8 ++ [k]) := HH.out (by rw [hbk]; rfl)
          clear HH HS hbk hT8
          have hA' := hA _ (Kept.alloc (fun _ => False) wr (.cells #[.string x.name, .int .i64 x.kind, .string x.arg, .string x.to, .int .i64 x.delay, .int .i64 x.tries, .slice av x.after.length cv] 32))
          have HC : Hid (∀ u ∈ [Value.int .i64 (k : Nat)], u.oneCell' = true) := natsV_one [k]
          clear hA
          generalize hm8 : T8.length = m8 at *
          go_wp2_with (first
            | (go_at_call 61; refine (hMk _ (Kw.and (Kept.alloc _ _ _))).mono ?_; rintro e w6 ⟨rfl, hw⟩; subst w6; clear hMk)
            | (go_at_call 62; refine hA'.mono ?_; rintro e w6 ⟨rfl, K6⟩; clear hA'; have KK : Kept (fun _ => False) wr w6 := (Kept.alloc (fun _ => False) _ _).and K6; have HO6 : Hid (w6.ownsRow w1.heap.size 3 1 (.slice a8 m8 c8) m8 (natsV T8)) := ownsRow_keep HOR.out (fun g hg => KK.block g (ownsRow_blk HOR.out hg) (fun h => h)); have hz6 := KK.size; have hzr := K.size)
            | (at_builtin; refine wpList_append_src _ rfl _ _ 85 rfl w1.heap.size 3 i0 _ 1 8 Tryd.underlying85 hi0 hz0 hz1 hz2 rfl (by decide) (.slice a8 m8 c8) m8 _ rfl (HO6.out.alloc _) _ rfl 1 _ (.inl ⟨_, 1, rfl, rfl, World.news_of_block (heap_alloc_new _ _)⟩) HC.out (by unfold maxLen; omega) (by omega) (by simp; omega) ?_; intro a3 cap3 w7 ho3 hg3 _ hl3)
            | fail)
          have KG : Kept (fun g => w1.heap.size ≤ g) (w6.alloc (.cells #[.int .i64 (k : Nat)] 3)) w7 := Kept.grown hg3 (fun g e => (HO6.out.lt g e).1)
          go_roundw
          case rel =>
            refine ⟨k + 1, a3, cap3, by omega, by go_num, by rw [HB.out]; simp [hm8], ?_, ((K.and (KK.mono (fun _ h => h.elim))).and (Kept.alloc _ _ _)).and KG⟩
            rw [HB.out, natsV_snoc, List.length_append, hm8]
            exact ho3
          case measure => simp [intOf]; omega
    · obtain rfl : k = ns.length := by omega
      have HOR : Hid (wr.ownsRow w1.heap.size 3 1 (.slice a8 (rdyL ns lo lb ns.length).length c8) (rdyL ns lo lb ns.length).length (natsV (rdyL ns lo lb ns.length))) := OR
      clear OR
      generalize hT8 : rdyL ns lo lb ns.length = T8 at *
      generalize hm8 : T8.length = m8 at *
      go_wp2
      go_ret
      subst hm8 hT8
      exact ⟨a8, c8, rfl, ownsRow_low HOR.out (by have := K0.out.size; omega), Kw⟩

end Go.Proofs.YtdecceekodpjiaaDoor
