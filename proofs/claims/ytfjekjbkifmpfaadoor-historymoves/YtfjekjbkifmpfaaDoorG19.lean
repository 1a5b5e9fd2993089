/-
  The document's Check.
-/
import Derived.Test.YtfjekjbkifmpfaaDoorG15
import Derived.Test.YtfjekjbkifmpfaaDoorG14
import Derived.Test.YtfjekjbkifmpfaaDoorG18
import Derived.Test.YtfjekjbkifmpfaaDoorG12
import Derived.BigQuiet
namespace Go.Proofs.YtfjekjbkifmpfaaDoor
open Go.RowKit

theorem uniq_of {ns : List Nd} (h : firstE (nodeAt ns) ns.length = none) : Uniq ns := by
  intro i hi
  have h0 := firstE_none h i hi
  unfold nodeAt at h0
  rw [List.getElem?_eq_getElem hi] at h0
  have h1 := findP_mem (List.getElem_mem hi)
  obtain ⟨j, hj⟩ := Option.isSome_iff_exists.1 h1
  have h2 := (nodeE_ok h0).2.1
  rw [hj] at h2
  simp at h2
  by_cases e : j = i
  · rw [hj, e]
  · exact absurd rfl (findP_first hj (j := i) (by omega))

theorem afterE_miss {ns : List Nd} {n : Nd} {k : Nat} (hk : k < n.after.length) (h : findP ns n.after[k] = none) : afterE ns n = 6 := by
  unfold afterE
  rw [if_neg]
  intro hall
  rw [List.all_eq_true] at hall
  have := hall _ (List.getElem_mem hk)
  rw [h] at this
  cases this

theorem afterE_twice {ns : List Nd} {n : Nd} (hall : ∀ s ∈ n.after, (findP ns s).isSome = true) {j k : Nat} (hj : j < k) (hk : k < n.after.length) (h : n.after[j]'(by omega) = n.after[k]) : afterE ns n = 16 := by
  unfold afterE
  rw [if_pos (by simpa using hall), if_neg]
  intro hnd
  rw [List.nodup_iff_pairwise_ne, List.pairwise_iff_getElem] at hnd
  exact hnd j k (by omega) hk hj h

theorem nodup_next {l : List ByteArray} {k : Nat} (hk : k < l.length) (h : (l.take k).Nodup) (h1 : l[k] ∉ l.take k) : (l.take (k + 1)).Nodup := by
  rw [List.take_add_one, List.getElem?_eq_getElem hk, Option.toList_some, List.nodup_append]
  exact ⟨h, by simp, fun x hx y hy e => by simp at hy; subst hy; subst e; exact h1 hx⟩

theorem notin_next {l : List ByteArray} {x : ByteArray} {j : Nat} (hj : j < l.length) (h : x ∉ l.take j) (h1 : ¬ l[j] = x) : x ∉ l.take (j + 1) := by
  rw [List.take_add_one, List.getElem?_eq_getElem hj, Option.toList_some]
  intro hm
  rcases List.mem_append.1 hm with hm | hm
  · exact h hm
  · simp at hm; exact h1 hm.symm

theorem found_next {ns : List Nd} {l : List ByteArray} {k : Nat} (hk : k < l.length) (h : ∀ s ∈ l.take k, (findP ns s).isSome = true) (h1 : (findP ns l[k]).isSome = true) : ∀ s ∈ l.take (k + 1), (findP ns s).isSome = true := by
  intro s hs
  rw [List.take_add_one, List.getElem?_eq_getElem hk, Option.toList_some] at hs
  rcases List.mem_append.1 hs with hs | hs
  · exact h s hs
  · simp at hs; subst hs; exact h1

theorem texts_few {w : World} {av : Option Addr} {n cv : Nat} {l : List ByteArray} (h : TextsAt w (.slice av n cv) l) : n ≤ 9223372036854775807 := by
  obtain ⟨a, c, e, h2, h3, _⟩ := h
  simp only [Value.slice.injEq] at e
  obtain ⟨rfl, rfl, rfl⟩ := e
  have : maxLen = 9223372036854775807 := rfl
  omega

theorem few_found {ns : List Nd} {l : List ByteArray} (h1 : ∀ s ∈ l, (findP ns s).isSome = true) (h2 : l.Nodup) : l.length ≤ ns.length := by
  have h3 : (l.map (fun s => (findP ns s).getD 0)).Nodup := by
    rw [List.nodup_iff_pairwise_ne, List.pairwise_map]
    rw [List.nodup_iff_pairwise_ne] at h2
    refine h2.imp_of_mem ?_
    intro x y hx hy hne he
    obtain ⟨i, hi⟩ := Option.isSome_iff_exists.1 (h1 x hx)
    obtain ⟨j, hj⟩ := Option.isSome_iff_exists.1 (h1 y hy)
    rw [hi, hj] at he
    simp at he
    subst he
    exact hne ((findP_name hi).symm.trans (findP_name hj))
  have h4 := nodup_le (n := ns.length) h3 (fun i hi => by
    obtain ⟨s, hs, rfl⟩ := List.mem_map.1 hi
    obtain ⟨j, hj⟩ := Option.isSome_iff_exists.1 (h1 s hs)
    rw [hj]
    exact findP_lt hj)
  simpa using h4

theorem afters_few {ns : List Nd} (h : firstE (aftAt ns) ns.length = none) (hl : ns.length ≤ 1000000) : ∀ n ∈ ns, n.after.length ≤ 1000000 := by
  intro n hn
  obtain ⟨i, hi, rfl⟩ := List.mem_iff_getElem.1 hn
  have h0 := firstE_none h i hi
  unfold aftAt at h0
  rw [List.getElem?_eq_getElem hi] at h0
  have h1 := afterE_ok h0
  exact Nat.le_trans (few_found h1.1 h1.2) hl

set_option maxRecDepth 100000 in
set_option maxHeartbeats 8000000 in
theorem refCheck_wide (w : World) (name : ByteArray) (a : Option Addr) (c : Nat) (ns : List Nd) (hN : RawAt w a ns) (hn : ns.length ≤ 30000) (hnm : name.size ≤ maxLen) :
    Calls Tryd.prog 30 #[.agg #[.string name, .slice a ns.length c]] w fun e w' => e = .returned (.tuple #[.int .i64 (checkP name ns).1, .int .i64 (checkP name ns).2]) ∧ Kept (fun _ => False) w w' := by
  generalize hr : checkP name ns = r
  have HR : Hid (checkP name ns = r) := hr
  clear hr
  have hnm1 := refName_any (w.alloc (.cells #[.string name, .slice a ns.length c] 24)) name hnm
  cases g0 : nameP name with
  | false =>
    rw [g0] at hnm1
    go_enter Tryd.func30, Tryd.ntmps30
    go_wp2_with (first
      | (go_at_call 45; refine hnm1.mono ?_; rintro e w1 ⟨rfl, rfl⟩; clear hnm1)
      | fail)
    go_ret2
    refine ⟨?_, Kept.alloc _ _ _⟩
    rw [← HR.out, checkP_eq, if_pos g0]
    rfl
  | true =>
    rw [g0] at hnm1
    by_cases hc1 : ns.length < 1
    · have e1 : ((ns.length : Int) == 0) = true := by simp; exact List.eq_nil_of_length_eq_zero (by omega)
      go_enter Tryd.func30, Tryd.ntmps30
      go_wp2_with (first
        | (go_at_call 45; refine hnm1.mono ?_; rintro e w1 ⟨rfl, rfl⟩; clear hnm1)
        | fail)
      go_ret2
      refine ⟨?_, Kept.alloc _ _ _⟩
      rw [← HR.out, checkP_eq, if_neg (by rw [g0]; simp), if_pos (.inl hc1)]
      rfl
    · have e1 : ((ns.length : Int) == 0) = false := by rw [beq_eq_false_iff_ne]; omega
      by_cases hc2 : 32 < ns.length
      · have e2 : (32 : Int) < (ns.length : Int) := by omega
        go_enter Tryd.func30, Tryd.ntmps30
        go_wp2_with (first
          | (go_at_call 45; refine hnm1.mono ?_; rintro e w1 ⟨rfl, rfl⟩; clear hnm1)
          | fail)
        go_ret2
        refine ⟨?_, Kept.alloc _ _ _⟩
        rw [← HR.out, checkP_eq, if_neg (by rw [g0]; simp), if_pos (.inr hc2)]
        rfl
      · have e2 : ¬ (32 : Int) < (ns.length : Int) := by omega
        have HN : Hid (RawAt w a ns) := hN
        have HP : Hid (checkP name ns = match firstE (nodeAt ns) ns.length with
            | some (i, e) => ((i : Int), e)
            | none => match firstE (aftAt ns) ns.length with
              | some (i, e) => ((i : Int), e)
              | none => if (ordP ns).length = ns.length then ((-1 : Int), (0 : Int)) else ((-1 : Int), (15 : Int))) := by
          show _ = _
          rw [checkP_eq, if_neg (by rw [g0]; simp), if_neg (by omega)]
          rfl
        have hcn := fun W (h : Kept (fun _ => False) w W) (i : Nat) (hi : i < ns.length) => refNode_wide W name a c i ns (keptRaw h hN) (by omega) hi
        have hor := fun W (h : Kept (fun _ => False) w W) (U : Uniq ns) (hf : ∀ n ∈ ns, n.after.length ≤ 1000000) => refOrder_any W name a c ns ((keptRaw h hN).nodes hf) (by omega) U
        clear hN
        go_enter Tryd.func30, Tryd.ntmps30
        go_wp2_with (first
          | (go_at_call 45; refine hnm1.mono ?_; rintro e w1 ⟨rfl, rfl⟩; clear hnm1)
          | fail)
        go_loopw [4] (fun q wr => ∃ (i : Nat), i ≤ ns.length ∧ q = .int .i64 (i : Nat) ∧ firstE (nodeAt ns) i = none ∧ Kept (fun _ => False) (w.alloc (.cells #[.string name, .slice a ns.length c] 24)) wr) (fun q _ => ns.length - (intOf q).toNat)
        case atStart => exact ⟨0, Nat.zero_le _, rfl, rfl, Kept.refl _ _⟩
        case round =>
          obtain ⟨i, hi, rfl, hfe, K⟩ := hrel
          have Kw := (Kept.alloc (fun _ => False) w _).and K
          obtain ⟨d0, d1⟩ := boxD K
          by_cases hlt : i < ns.length
          · have h1 := hcn wr Kw i hlt
            have e3 : (i : Int) < (ns.length : Int) := by omega
            have hat : nodeAt ns i = nodeE ns i ns[i] := by unfold nodeAt; rw [List.getElem?_eq_getElem hlt]
            rw [← hat] at h1
            by_cases hz : nodeAt ns i = 0
            · have HFn : Hid (firstE (nodeAt ns) (i + 1) = none) := firstE_next hfe hz
              rw [hz] at h1
              clear hat hz hfe hcn hor
              go_wp2_with (first
                | (go_at_call 46; refine h1.mono ?_; rintro e w2 ⟨rfl, K2⟩; clear h1)
                | fail)
              go_roundw
              case rel => exact ⟨i + 1, by omega, by go_num, HFn.out, K.and K2⟩
              case measure => simp [intOf]; omega
            · have HFn : Hid (firstE (nodeAt ns) ns.length = some (i, nodeAt ns i)) := firstE_hit hfe hlt hz
              have hz2 : (nodeAt ns i == 0) = false := by simpa using hz
              have hz3 : (nodeAt ns i != 0) = true := by simpa using hz
              clear hat hfe hcn hor
              generalize nodeAt ns i = z at *
              go_wp2_with (first
                | (go_at_call 46; refine h1.mono ?_; rintro e w2 ⟨rfl, K2⟩; clear h1)
                | fail)
              go_ret2
              refine ⟨?_, Kw.and K2⟩
              rw [← HR.out, HP.out, HFn.out]
              rfl
          · obtain rfl : i = ns.length := by omega
            have HF0 : Hid (firstE (nodeAt ns) ns.length = none) := hfe
            obtain ⟨wo, hwo⟩ : ∃ wo, wo = wr := ⟨_, rfl⟩
            subst hwo
            clear hfe hcn
            go_wp2_with fail
            go_loopw [6] (fun q wr => ∃ (i : Nat), i ≤ ns.length ∧ q = .int .i64 (i : Nat) ∧ firstE (aftAt ns) i = none ∧ Kept (fun _ => False) (w.alloc (.cells #[.string name, .slice a ns.length c] 24)) wr) (fun q _ => ns.length - (intOf q).toNat)
            case atStart => exact ⟨0, Nat.zero_le _, rfl, rfl, K⟩
            case round =>
              obtain ⟨i, hi, rfl, hfe, K'⟩ := hrel
              have Kw' := (Kept.alloc (fun _ => False) w _).and K'
              obtain ⟨d0', d1'⟩ := boxD K'
              by_cases hlt : i < ns.length
              · have e3 : (i : Int) < (ns.length : Int) := by omega
                have Nr := keptRaw Kw' HN.out
                obtain ⟨b, o, av, cv, rfl, hT, _, _, _, _, _, _, c6⟩ := Nr.at hlt
                have hfew : (ns[i]).after.length ≤ 9223372036854775807 := texts_few hT
                have hat : aftAt ns i = afterE ns ns[i] := by unfold aftAt; rw [List.getElem?_eq_getElem hlt]
                have HMi : Hid (∀ k (hk : k < (ns[i]).after.length), findP ns (ns[i]).after[k] = none → firstE (aftAt ns) ns.length = some (i, 6)) := fun k hk h => by
                  have h6 : aftAt ns i = 6 := by rw [hat, afterE_miss hk h]
                  rw [firstE_hit hfe hlt (by rw [h6]; decide), h6]
                have HTw : Hid ((∀ s ∈ (ns[i]).after, (findP ns s).isSome = true) → ∀ j k x, j < k → (ns[i]).after[j]? = some x → (ns[i]).after[k]? = some x → firstE (aftAt ns) ns.length = some (i, 16)) := fun hall j k x hj h1 h2 => by
                  obtain ⟨hjl, e1⟩ := List.getElem?_eq_some_iff.1 h1
                  obtain ⟨hkl, e2⟩ := List.getElem?_eq_some_iff.1 h2
                  have h6 : aftAt ns i = 16 := by rw [hat, afterE_twice hall hj hkl (e1.trans e2.symm)]
                  rw [firstE_hit hfe hlt (by rw [h6]; decide), h6]
                have HOk : Hid ((∀ s ∈ (ns[i]).after, (findP ns s).isSome = true) → (ns[i]).after.Nodup → firstE (aftAt ns) (i + 1) = none) := fun h1 h2 => firstE_next hfe (by rw [hat]; exact afterE_of h1 h2)
                have HT : Hid (TextsAt wr (.slice av (ns[i]).after.length cv) (ns[i]).after) := hT
                obtain ⟨wp, hwp⟩ : ∃ wp, wp = wr := ⟨_, rfl⟩
                subst hwp
                clear hfe hat hT Nr hor
                generalize (ns[i]).after = l at *
                go_wp2_with fail
                go_loopw [8] (fun q wr => ∃ (k : Nat), k ≤ l.length ∧ q = .int .i64 (k : Nat) ∧ (∀ s ∈ l.take k, (findP ns s).isSome = true) ∧ Kept (fun _ => False) wp wr) (fun q _ => l.length - (intOf q).toNat)
                case atStart => exact ⟨0, Nat.zero_le _, rfl, fun s hs => by simp at hs, Kept.refl _ _⟩
                case round =>
                  obtain ⟨k, hk, rfl, hall, K3⟩ := hrel
                  have KwR : Kept (fun _ => False) w wr := Kw'.and K3
                  have x0 := keepC K3 d0' (fun _ _ h => h)
                  have x1 := keepC K3 d1' (fun _ _ h => h)
                  have hT3 := HT.out.kept K3 (fun _ _ h => h)
                  by_cases hlk : k < l.length
                  · have e4 : (k : Int) < (l.length : Int) := by omega
                    obtain ⟨a2, c2', hsl, hc2, hne⟩ := hT3.at
                    obtain ⟨rfl, rfl⟩ : av = a2 ∧ cv = c2' := by simpa using hsl
                    obtain ⟨xb, xo, rfl, hcell⟩ := hne (fun e => by rw [e] at hlk; simp at hlk)
                    have hck := hcell k hlk
                    have KD := Kept.drew (fun _ => False) wr
                    have FI := refFind_wide wr.drew name (some ⟨b, o, none⟩) ns.length c ns (keptRaw (KwR.and KD) HN.out) rfl (by omega) l[k]
                    have HS : Hid (∀ V, Kept (fun _ => False) wr.drew V → Kept (fun _ => False) wr.drew V ∧ V.cell? ⟨w.heap.size, 0, none⟩ = some (.string name) ∧ V.cell? ⟨w.heap.size, 1, none⟩ = some (.slice (some ⟨b, o, none⟩) ns.length c) ∧ V.cell? ⟨xb, xo + k, none⟩ = some (.string l[k])) := fun V KV => ⟨KV, keepC (KD.and KV) x0 (fun _ _ h => h), keepC (KD.and KV) x1 (fun _ _ h => h), keepC (KD.and KV) hck (fun _ _ h => h)⟩
                    have HKD : Hid (Kept (fun _ => False) wr wr.drew) := KD
                    have w2 : IntKind.i64.wrap (k : Int) = (k : Int) := by rw [IntKind.wrap_i64]; omega
                    have HMk : Hid (findP ns l[k] = none → firstE (aftAt ns) ns.length = some (i, 6)) := HMi.out k hlk
                    have HFk : Hid ((findP ns l[k]).isSome = true → ∀ s ∈ l.take (k + 1), (findP ns s).isSome = true) := found_next hlk hall
                    clear hsl hne hcell hT3 KD hall
                    generalize findP ns l[k] = fr at *
                    generalize l[k] = s at *
                    go_wp2_with fail
                    refine wp_onlyN ?_
                    (go_region_held (fun V => Kept (fun _ => False) wr.drew V ∧ V.cell? ⟨w.heap.size, 0, none⟩ = some (.string name) ∧ V.cell? ⟨w.heap.size, 1, none⟩ = some (.slice (some ⟨b, o, none⟩) ns.length c) ∧ V.cell? ⟨xb, xo + k, none⟩ = some (.string s)) (first | exact HS.out _ (Kept.refl _ _) | exact HS.out _ (by assumption)) (first
                      | (go_at_call 23; refine FI.mono ?_; rintro e w5 ⟨rfl, K5⟩)
                      | fail))
                    simp only [onlyN]
                    rename_i hHeld
                    clear hHeld HS FI x0 x1 hck
                    have K5' : Kept (fun _ => False) wr w5 := HKD.out.and K5
                    cases fr with
                    | none =>
                      have HX : Hid (firstE (aftAt ns) ns.length = some (i, 6)) := HMk.out rfl
                      clear HMk HFk K5
                      go_wp2_with fail
                      go_ret2
                      refine ⟨?_, KwR.and K5'⟩
                      rw [← HR.out, HP.out, HF0.out, HX.out]
                      rfl
                    | some j =>
                      have HX : Hid (∀ s ∈ l.take (k + 1), (findP ns s).isSome = true) := HFk.out rfl
                      clear HMk HFk K5
                      go_wp2_with fail
                      go_roundw
                      case rel => exact ⟨k + 1, by omega, by go_num, HX.out, K3.and K5'⟩
                      case measure => simp [intOf]; omega
                  · obtain rfl : k = l.length := by omega
                    rw [List.take_length] at hall
                    have HAll : Hid (∀ s ∈ l, (findP ns s).isSome = true) := hall
                    have HT3 : Hid (TextsAt wr (.slice av l.length cv) l) := hT3
                    obtain ⟨wq, hwq⟩ : ∃ wq, wq = wr := ⟨_, rfl⟩
                    subst hwq
                    have e4 : ¬ (l.length : Int) < (l.length : Int) := by omega
                    clear hall hT3 x0 x1
                    go_wp2_with fail
                    go_loopw [11] (fun q wr => ∃ (k : Nat), k ≤ l.length ∧ q = .int .i64 (k : Nat) ∧ (l.take k).Nodup ∧ Kept (fun _ => False) wq wr) (fun q _ => l.length - (intOf q).toNat)
                    case atStart => exact ⟨0, Nat.zero_le _, rfl, by simp, Kept.refl _ _⟩
                    case round =>
                      obtain ⟨k, hk, rfl, hnd, K6⟩ := hrel
                      by_cases hlk : k < l.length
                      · have e5 : (k : Int) < (l.length : Int) := by omega
                        have HNd : Hid ((l.take k).Nodup) := hnd
                        obtain ⟨wv, hwv⟩ : ∃ wv, wv = wr := ⟨_, rfl⟩
                        subst hwv
                        clear hnd
                        go_wp2_with fail
                        go_loopw [12] (fun q wr => ∃ (j : Nat), j ≤ k ∧ q = .int .i64 (j : Nat) ∧ l[k] ∉ l.take j ∧ Kept (fun _ => False) wv wr) (fun q _ => k - (intOf q).toNat)
                        case atStart => exact ⟨0, Nat.zero_le _, rfl, by simp, Kept.refl _ _⟩
                        case round =>
                          obtain ⟨j, hj, rfl, hni, K7⟩ := hrel
                          have KqR : Kept (fun _ => False) wq wr := K6.and K7
                          by_cases hjk : j < k
                          · have e6 : (j : Int) < (k : Int) := by omega
                            have e7 : (j : Int) < (l.length : Int) := by omega
                            have hjl : j < l.length := by omega
                            obtain ⟨a2, c2', hsl, hc2, hne⟩ := (HT3.out.kept KqR (fun _ _ h => h)).at
                            obtain ⟨rfl, rfl⟩ : av = a2 ∧ cv = c2' := by simpa using hsl
                            obtain ⟨xb, xo, rfl, hcell⟩ := hne (fun e => by rw [e] at hlk; simp at hlk)
                            have c1 := hcell k hlk
                            have c2 := hcell j hjl
                            have hse := str_eq l[j] l[k]
                            have w1 : IntKind.i64.wrap (j : Int) = (j : Int) := by rw [IntKind.wrap_i64]; omega
                            have w2 : IntKind.i64.wrap (k : Int) = (k : Int) := by rw [IntKind.wrap_i64]; omega
                            have HTk : Hid (l[j] = l[k] → firstE (aftAt ns) ns.length = some (i, 16)) := fun h => HTw.out HAll.out j k l[k] hjk (by rw [List.getElem?_eq_getElem hjl, h]) (List.getElem?_eq_getElem hlk)
                            have HNk : Hid (¬ l[j] = l[k] → l[k] ∉ l.take (j + 1)) := fun h => notin_next hjl hni h
                            clear hsl hne hcell hni
                            by_cases he : l[j] = l[k]
                            · have HX : Hid (firstE (aftAt ns) ns.length = some (i, 16)) := HTk.out he
                              simp only [he, decide_true] at hse
                              rw [he] at c2
                              clear HTk HNk he
                              generalize l[k] = s at *
                              go_wp2_with (first | go_quiet (fail) | fail)
                              go_ret2
                              refine ⟨?_, ((KwR.and KqR).and (Kept.drewN _ _ _))⟩
                              rw [← HR.out, HP.out, HF0.out, HX.out]
                              rfl
                            · have HX : Hid (l[k] ∉ l.take (j + 1)) := HNk.out he
                              simp only [he, decide_false] at hse
                              clear HTk HNk he
                              generalize l[j] = t at *
                              generalize hlkk : l[k] = s at *
                              have HLk : Hid (l[k] = s) := hlkk
                              clear hlkk
                              go_wp2_with (first | go_quiet (fail) | fail)
                              go_roundw
                              case rel => exact ⟨j + 1, by omega, by go_num, by first | exact HX.out | (rw [HLk.out]; exact HX.out), K7.and (Kept.drewN _ _ _)⟩
                              case measure => simp [intOf]; omega
                          · obtain rfl : j = k := by omega
                            have HX : Hid ((l.take (j + 1)).Nodup) := nodup_next hlk HNd.out hni
                            have e6 : ¬ (j : Int) < (j : Int) := by omega
                            clear hni
                            go_wp2_with fail
                            go_roundw
                            case rel => exact ⟨j + 1, by omega, by go_num, HX.out, KqR⟩
                            case measure => simp [intOf]; omega
                      · obtain rfl : k = l.length := by omega
                        rw [List.take_length] at hnd
                        have HX : Hid (firstE (aftAt ns) (i + 1) = none) := HOk.out HAll.out hnd
                        have e5 : ¬ (l.length : Int) < (l.length : Int) := by omega
                        clear hnd
                        go_wp2_with fail
                        go_roundw
                        case rel => exact ⟨i + 1, by omega, by go_num, HX.out, (K'.and K3).and K6⟩
                        case measure => simp [intOf]; omega
              · obtain rfl : i = ns.length := by omega
                have HF1 : Hid (firstE (aftAt ns) ns.length = none) := hfe
                have h1 := hor wr Kw' (uniq_of HF0.out) (afters_few HF1.out (by omega))
                clear hfe hor
                by_cases hok : (ordP ns).length = ns.length
                · rw [show decide ((ordP ns).length = ns.length) = true by simpa using hok] at h1
                  go_wp2_with (first
                    | (go_at_call 47; refine h1.mono ?_; rintro e w2 ⟨av, cv, rfl, K2⟩; clear h1)
                    | fail)
                  go_ret2
                  refine ⟨?_, Kw'.and K2⟩
                  rw [← HR.out, HP.out, HF0.out, HF1.out]
                  simp only [hok, if_true]
                  rfl
                · rw [show decide ((ordP ns).length = ns.length) = false by simpa using hok] at h1
                  go_wp2_with (first
                    | (go_at_call 47; refine h1.mono ?_; rintro e w2 ⟨av, cv, rfl, K2⟩; clear h1)
                    | fail)
                  go_ret2
                  refine ⟨?_, Kw'.and K2⟩
                  rw [← HR.out, HP.out, HF0.out, HF1.out]
                  simp only [hok, if_false]
                  rfl

theorem refCheck_any (w : World) (name : ByteArray) (a : Option Addr) (c : Nat) (ns : List Nd) (hN : NodesAt w a ns) (hn : ns.length ≤ 30000) (_hf : ∀ n ∈ ns, n.after.length ≤ 1000000) (hnm : name.size ≤ maxLen) :
    Calls Tryd.prog 30 #[.agg #[.string name, .slice a ns.length c]] w fun e w' => e = .returned (.tuple #[.int .i64 (checkP name ns).1, .int .i64 (checkP name ns).2]) ∧ Kept (fun _ => False) w w' :=
  refCheck_wide w name a c ns hN.raw hn hnm

end Go.Proofs.YtfjekjbkifmpfaaDoor

/-
  tillerkeep's Tasks, of the same tasks.
-/
namespace Go.Proofs.YtfjekjbkifmpfaaDoor.Rf
open Go.RowKit

set_option maxRecDepth 100000 in
set_option maxHeartbeats 8000000 in
theorem tasksSame_any (w : World) (a1 a2 : Option Addr) (c1 c2 : Nat) (l : List Tk) (h1 : FlatAt w 13 (.slice a1 l.length c1) l.length (tkF l)) (h2 : FlatAt w 13 (.slice a2 l.length c2) l.length (tkF l)) :
    Calls Tryd.prog 33 #[.slice a1 l.length c1, .slice a2 l.length c2] w fun e w' => e = .returned (.bool true) ∧ Kept (fun _ => False) w w' := by
  have H1 := hid h1
  have H2 := hid h2
  have hm : l.length ≤ 9223372036854775807 := by
    obtain ⟨_, a', c', e, hc, hm, _⟩ := h1
    have : maxLen = 9223372036854775807 := rfl
    omega
  have hc1 : l.length ≤ c1 := by
    obtain ⟨_, a', c', e, hc, _, _⟩ := h1
    obtain ⟨_, rfl⟩ : a1 = a' ∧ c1 = c' := by simpa using e
    exact hc
  have hc2 : l.length ≤ c2 := by
    obtain ⟨_, a', c', e, hc, _, _⟩ := h2
    obtain ⟨_, rfl⟩ : a2 = a' ∧ c2 = c' := by simpa using e
    exact hc
  have hcx : ∀ W, Sem.run Tryd.prog (Op.equalIn 9999 74 (Value.complex .f64 0 0) (Value.complex .f64 0 0)) W = Result.ok true W := fun W => by rfl
  clear h1 h2
  have e0 : ((l.length : Int) != (l.length : Int)) = false := by simp
  go_enter Tryd.func33, Tryd.ntmps33
  go_wp2_with fail
  go_loopw [5] (fun q wr => ∃ (k : Nat), k ≤ l.length ∧ q = .int .i64 k ∧ Kept (fun _ => False) w wr) (fun q _ => l.length - (intOf q).toNat)
  case atStart => exact ⟨0, Nat.zero_le _, rfl, Kept.refl _ _⟩
  case round =>
    obtain ⟨k, hk, rfl, K⟩ := hrel
    by_cases hlk : k < l.length
    · have e1 : (k : Int) < (l.length : Int) := by omega
      obtain ⟨b1, o1, rfl, x0, x1, x2, x3, x4, x5, x6, x7, x8, x9, x10, x11, x12⟩ := tk_at (H1.out.new K) hlk rfl
      obtain ⟨b2, o2, rfl, y0, y1, y2, y3, y4, y5, y6, y7, y8, y9, y10, y11, y12⟩ := tk_at (H2.out.new K) hlk rfl
      have w1 : IntKind.i64.wrap (k : Int) = (k : Int) := by rw [IntKind.wrap_i64]; omega
      have HK := hid K
      clear K
      generalize l[k] = x at *
      go_upto_region 6 with fail
      go_region
      go_wp2_with fail
      go_roundw
      case rel => exact ⟨k + 1, by omega, by go_num, HK.out.and (Kept.drew _ _)⟩
      case measure => simp [intOf]; omega
    · obtain rfl : k = l.length := by omega
      have e1 : ¬ (l.length : Int) < (l.length : Int) := by omega
      go_wp2_with fail
      go_ret
      exact ⟨rfl, K⟩

end Go.Proofs.YtfjekjbkifmpfaaDoor.Rf
