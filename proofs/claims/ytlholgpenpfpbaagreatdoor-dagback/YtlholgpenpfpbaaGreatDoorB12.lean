/-
  The document's Check.
-/
import Derived.Test.YtlholgpenpfpbaaGreatDoorB11
import Derived.Test.YtlholgpenpfpbaaGreatDoorB06
import Derived.Deep.RegionHeld3
import Derived.Deep.QuietTactic
import Derived.BigQuiet
namespace Go.Proofs.YtlholgpenpfpbaaGreatDoor
open Go.RowKit

theorem uniq_of {ns : List Nd} (h : firstE (nodeAt ns) ns.length = none) : Uniq ns := by
  intro i hi
  have h0 := firstE_none h i hi
  unfold nodeAt at h0
  rw [List.getElem?_eq_getElem hi] at h0
  have h1 := findP_mem (List.getElem_mem hi)
  obtain ⟨j, hj⟩ := Option.isSome_iff_exists.1 h1
  have h2 := (nodeE_ok h0).2.1
  rw [hj] at h2
  simp at h2
  by_cases e : j = i
  · rw [hj, e]
  · exact absurd rfl (findP_first hj (j := i) (by omega))

theorem afterE_miss {ns : List Nd} {n : Nd} {k : Nat} (hk : k < n.after.length) (h : findP ns n.after[k] = none) : afterE ns n = 6 := by
  unfold afterE
  rw [if_neg]
  intro hall
  rw [List.all_eq_true] at hall
  have := hall _ (List.getElem_mem hk)
  rw [h] at this
  cases this

theorem afterE_twice {ns : List Nd} {n : Nd} (hall : ∀ s ∈ n.after, (findP ns s).isSome = true) {j k : Nat} (hj : j < k) (hk : k < n.after.length) (h : n.after[j]'(by omega) = n.after[k]) : afterE ns n = 16 := by
  unfold afterE
  rw [if_pos (by simpa using hall), if_neg]
  intro hnd
  rw [List.nodup_iff_pairwise_ne, List.pairwise_iff_getElem] at hnd
  exact hnd j k (by omega) hk hj h

theorem nodup_next {l : List ByteArray} {k : Nat} (hk : k < l.length) (h : (l.take k).Nodup) (h1 : l[k] ∉ l.take k) : (l.take (k + 1)).Nodup := by
  rw [List.take_add_one, List.getElem?_eq_getElem hk, Option.toList_some, List.nodup_append]
  exact ⟨h, by simp, fun x hx y hy e => by simp at hy; subst hy; subst e; exact h1 hx⟩

theorem notin_next {l : List ByteArray} {x : ByteArray} {j : Nat} (hj : j < l.length) (h : x ∉ l.take j) (h1 : ¬ l[j] = x) : x ∉ l.take (j + 1) := by
  rw [List.take_add_one, List.getElem?_eq_getElem hj, Option.toList_some]
  intro hm
  rcases List.mem_append.1 hm with hm | hm
  · exact h hm
  · simp at hm; exact h1 hm.symm

theorem found_next {ns : List Nd} {l : List ByteArray} {k : Nat} (hk : k < l.length) (h : ∀ s ∈ l.take k, (findP ns s).isSome = true) (h1 : (findP ns l[k]).isSome = true) : ∀ s ∈ l.take (k + 1), (findP ns s).isSome = true := by
  intro s hs
  rw [List.take_add_one, List.getElem?_eq_getElem hk, Option.toList_some] at hs
  rcases List.mem_append.1 hs with hs | hs
  · exact h s hs
  · simp at hs; subst hs; exact h1

set_option maxRecDepth 100000 in
set_option maxHeartbeats 8000000 in
theorem refCheck_any (w : World) (name : ByteArray) (a : Option Addr) (c : Nat) (ns : List Nd) (hN : NodesAt w a ns) (hn : ns.length ≤ 30000) (hf : ∀ n ∈ ns, n.after.length ≤ 1000000) (hnm : name.size ≤ maxLen) :
    Calls Tryz.prog 15 #[.agg #[.string name, .slice a ns.length c]] w fun e w' => e = .returned (.tuple #[.int .i64 (checkP name ns).1, .int .i64 (checkP name ns).2]) ∧ Kept (fun _ => False) w w' := by
  generalize hr : checkP name ns = r
  have HR : Hid (checkP name ns = r) := hr
  clear hr
  have hnm1 := refName_any (w.alloc (.cells #[.string name, .slice a ns.length c] 24)) name hnm
  cases g0 : nameP name with
  | false =>
    rw [g0] at hnm1
    go_enter Tryz.func15, Tryz.ntmps15
    go_wp2_with (first
      | (go_at_call 28; refine hnm1.mono ?_; rintro e w1 ⟨rfl, rfl⟩; clear hnm1)
      | fail)
    go_ret2
    refine ⟨?_, Kept.alloc _ _ _⟩
    rw [← HR.out, checkP_eq, if_pos g0]
    rfl
  | true =>
    rw [g0] at hnm1
    by_cases hc1 : ns.length < 1
    · have e1 : ((ns.length : Int) == 0) = true := by simp; exact List.eq_nil_of_length_eq_zero (by omega)
      go_enter Tryz.func15, Tryz.ntmps15
      go_wp2_with (first
        | (go_at_call 28; refine hnm1.mono ?_; rintro e w1 ⟨rfl, rfl⟩; clear hnm1)
        | fail)
      go_ret2
      refine ⟨?_, Kept.alloc _ _ _⟩
      rw [← HR.out, checkP_eq, if_neg (by rw [g0]; simp), if_pos (.inl hc1)]
      rfl
    · have e1 : ((ns.length : Int) == 0) = false := by rw [beq_eq_false_iff_ne]; omega
      by_cases hc2 : 32 < ns.length
      · have e2 : (32 : Int) < (ns.length : Int) := by omega
        go_enter Tryz.func15, Tryz.ntmps15
        go_wp2_with (first
          | (go_at_call 28; refine hnm1.mono ?_; rintro e w1 ⟨rfl, rfl⟩; clear hnm1)
          | fail)
        go_ret2
        refine ⟨?_, Kept.alloc _ _ _⟩
        rw [← HR.out, checkP_eq, if_neg (by rw [g0]; simp), if_pos (.inr hc2)]
        rfl
      · have e2 : ¬ (32 : Int) < (ns.length : Int) := by omega
        have HN : Hid (NodesAt w a ns) := hN
        have HP : Hid (checkP name ns = match firstE (nodeAt ns) ns.length with
            | some (i, e) => ((i : Int), e)
            | none => match firstE (aftAt ns) ns.length with
              | some (i, e) => ((i : Int), e)
              | none => if (ordP ns).length = ns.length then ((-1 : Int), (0 : Int)) else ((-1 : Int), (15 : Int))) := by
          show _ = _
          rw [checkP_eq, if_neg (by rw [g0]; simp), if_neg (by omega)]
          rfl
        have hcn := fun W (h : Kept (fun _ => False) w W) (i : Nat) (hi : i < ns.length) => refNode_any W name a c i ns (keptNew h hN) (by omega) hi
        have hor := fun W (h : Kept (fun _ => False) w W) (U : Uniq ns) => refOrder_any W name a c ns (keptNew h hN) (by omega) U
        have HF : Hid (∀ n ∈ ns, n.after.length ≤ 1000000) := hf
        clear hN hf
        go_enter Tryz.func15, Tryz.ntmps15
        go_wp2_with (first
          | (go_at_call 28; refine hnm1.mono ?_; rintro e w1 ⟨rfl, rfl⟩; clear hnm1)
          | fail)
        go_loopw [4] (fun q wr => ∃ (i : Nat), i ≤ ns.length ∧ q = .int .i64 (i : Nat) ∧ firstE (nodeAt ns) i = none ∧ Kept (fun _ => False) (w.alloc (.cells #[.string name, .slice a ns.length c] 24)) wr) (fun q _ => ns.length - (intOf q).toNat)
        case atStart => exact ⟨0, Nat.zero_le _, rfl, rfl, Kept.refl _ _⟩
        case round =>
          obtain ⟨i, hi, rfl, hfe, K⟩ := hrel
          have Kw := (Kept.alloc (fun _ => False) w _).and K
          obtain ⟨d0, d1⟩ := boxD K
          by_cases hlt : i < ns.length
          · have h1 := hcn wr Kw i hlt
            have e3 : (i : Int) < (ns.length : Int) := by omega
            have hat : nodeAt ns i = nodeE ns i ns[i] := by unfold nodeAt; rw [List.getElem?_eq_getElem hlt]
            rw [← hat] at h1
            by_cases hz : nodeAt ns i = 0
            · have HFn : Hid (firstE (nodeAt ns) (i + 1) = none) := firstE_next hfe hz
              rw [hz] at h1
              clear hat hz hfe hcn hor
              go_wp2_with (first
                | (go_at_call 29; refine h1.mono ?_; rintro e w2 ⟨rfl, K2⟩; clear h1)
                | fail)
              go_roundw
              case rel => exact ⟨i + 1, by omega, by go_num, HFn.out, K.and K2⟩
              case measure => simp [intOf]; omega
            · have HFn : Hid (firstE (nodeAt ns) ns.length = some (i, nodeAt ns i)) := firstE_hit hfe hlt hz
              have hz2 : (nodeAt ns i == 0) = false := by simpa using hz
              have hz3 : (nodeAt ns i != 0) = true := by simpa using hz
              clear hat hfe hcn hor
              generalize nodeAt ns i = z at *
              go_wp2_with (first
                | (go_at_call 29; refine h1.mono ?_; rintro e w2 ⟨rfl, K2⟩; clear h1)
                | fail)
              go_ret2
              refine ⟨?_, Kw.and K2⟩
              rw [← HR.out, HP.out, HFn.out]
              rfl
          · obtain rfl : i = ns.length := by omega
            have HF0 : Hid (firstE (nodeAt ns) ns.length = none) := hfe
            obtain ⟨wo, hwo⟩ : ∃ wo, wo = wr := ⟨_, rfl⟩
            subst hwo
            clear hfe hcn
            go_wp2_with fail
            go_loopw [6] (fun q wr => ∃ (i : Nat), i ≤ ns.length ∧ q = .int .i64 (i : Nat) ∧ firstE (aftAt ns) i = none ∧ Kept (fun _ => False) (w.alloc (.cells #[.string name, .slice a ns.length c] 24)) wr) (fun q _ => ns.length - (intOf q).toNat)
            case atStart => exact ⟨0, Nat.zero_le _, rfl, rfl, K⟩
            case round =>
              obtain ⟨i, hi, rfl, hfe, K'⟩ := hrel
              have Kw' := (Kept.alloc (fun _ => False) w _).and K'
              obtain ⟨d0', d1'⟩ := boxD K'
              by_cases hlt : i < ns.length
              · have e3 : (i : Int) < (ns.length : Int) := by omega
                have Nr := keptNew Kw' HN.out
                obtain ⟨b, o, av, cv, rfl, hT, _, _, _, _, _, _, c6⟩ := Nr.at hlt
                have hfew := HF.out _ (List.getElem_mem hlt)
                have hat : aftAt ns i = afterE ns ns[i] := by unfold aftAt; rw [List.getElem?_eq_getElem hlt]
                have HMi : Hid (∀ k (hk : k < (ns[i]).after.length), findP ns (ns[i]).after[k] = none → firstE (aftAt ns) ns.length = some (i, 6)) := fun k hk h => by
                  have h6 : aftAt ns i = 6 := by rw [hat, afterE_miss hk h]
                  rw [firstE_hit hfe hlt (by rw [h6]; decide), h6]
                have HTw : Hid ((∀ s ∈ (ns[i]).after, (findP ns s).isSome = true) → ∀ j k x, j < k → (ns[i]).after[j]? = some x → (ns[i]).after[k]? = some x → firstE (aftAt ns) ns.length = some (i, 16)) := fun hall j k x hj h1 h2 => by
                  obtain ⟨hjl, e1⟩ := List.getElem?_eq_some_iff.1 h1
                  obtain ⟨hkl, e2⟩ := List.getElem?_eq_some_iff.1 h2
                  have h6 : aftAt ns i = 16 := by rw [hat, afterE_twice hall hj hkl (e1.trans e2.symm)]
                  rw [firstE_hit hfe hlt (by rw [h6]; decide), h6]
                have HOk : Hid ((∀ s ∈ (ns[i]).after, (findP ns s).isSome = true) → (ns[i]).after.Nodup → firstE (aftAt ns) (i + 1) = none) := fun h1 h2 => firstE_next hfe (by rw [hat]; exact afterE_of h1 h2)
                have HT : Hid (TextsAt wr (.slice av (ns[i]).after.length cv) (ns[i]).after) := hT
                obtain ⟨wp, hwp⟩ : ∃ wp, wp = wr := ⟨_, rfl⟩
                subst hwp
                clear hfe hat hT Nr hor
                generalize (ns[i]).after = l at *
                go_wp2_with fail
                go_loopw [8] (fun q wr => ∃ (k : Nat), k ≤ l.length ∧ q = .int .i64 (k : Nat) ∧ (∀ s ∈ l.take k, (findP ns s).isSome = true) ∧ Kept (fun _ => False) wp wr) (fun q _ => l.length - (intOf q).toNat)
                case atStart => exact ⟨0, Nat.zero_le _, rfl, fun s hs => by simp at hs, Kept.refl _ _⟩
                case round =>
                  obtain ⟨k, hk, rfl, hall, K3⟩ := hrel
                  have KwR : Kept (fun _ => False) w wr := Kw'.and K3
                  have x0 := keepC K3 d0' (fun _ _ h => h)
                  have x1 := keepC K3 d1' (fun _ _ h => h)
                  have hT3 := HT.out.kept K3 (fun _ _ h => h)
                  by_cases hlk : k < l.length
                  · have e4 : (k : Int) < (l.length : Int) := by omega
                    obtain ⟨a2, c2', hsl, hc2, hne⟩ := hT3.at
                    obtain ⟨rfl, rfl⟩ : av = a2 ∧ cv = c2' := by simpa using hsl
                    obtain ⟨xb, xo, rfl, hcell⟩ := hne (fun e => by rw [e] at hlk; simp at hlk)
                    have hck := hcell k hlk
                    have KD := Kept.drew (fun _ => False) wr
                    have FI := refFind_any wr.drew name (some ⟨b, o, none⟩) ns.length c ns (keptNew (KwR.and KD) HN.out) rfl (by omega) l[k]
                    have HS : Hid (∀ V, Kept (fun _ => False) wr.drew V → Kept (fun _ => False) wr.drew V ∧ V.cell? ⟨w.heap.size, 0, none⟩ = some (.string name) ∧ V.cell? ⟨w.heap.size, 1, none⟩ = some (.slice (some ⟨b, o, none⟩) ns.length c) ∧ V.cell? ⟨xb, xo + k, none⟩ = some (.string l[k])) := fun V KV => ⟨KV, keepC (KD.and KV) x0 (fun _ _ h => h), keepC (KD.and KV) x1 (fun _ _ h => h), keepC (KD.and KV) hck (fun _ _ h => h)⟩
                    have HKD : Hid (Kept (fun _ => False) wr wr.drew) := KD
                    have w2 : IntKind.i64.wrap (k : Int) = (k : Int) := by rw [IntKind.wrap_i64]; omega
                    have HMk : Hid (findP ns l[k] = none → firstE (aftAt ns) ns.length = some (i, 6)) := HMi.out k hlk
                    have HFk : Hid ((findP ns l[k]).isSome = true → ∀ s ∈ l.take (k + 1), (findP ns s).isSome = true) := found_next hlk hall
                    clear hsl hne hcell hT3 KD hall
                    generalize findP ns l[k] = fr at *
                    generalize l[k] = s at *
                    go_wp2_with fail
                    refine wp_onlyN ?_
                    (go_region_held (fun V => Kept (fun _ => False) wr.drew V ∧ V.cell? ⟨w.heap.size, 0, none⟩ = some (.string name) ∧ V.cell? ⟨w.heap.size, 1, none⟩ = some (.slice (some ⟨b, o, none⟩) ns.length c) ∧ V.cell? ⟨xb, xo + k, none⟩ = some (.string s)) (first | exact HS.out _ (Kept.refl _ _) | exact HS.out _ (by assumption)) (first
                      | (go_at_call 30; refine FI.mono ?_; rintro e w5 ⟨rfl, K5⟩)
                      | fail))
                    simp only [onlyN]
                    rename_i hHeld
                    clear hHeld HS FI x0 x1 hck
                    have K5' : Kept (fun _ => False) wr w5 := HKD.out.and K5
                    cases fr with
                    | none =>
                      have HX : Hid (firstE (aftAt ns) ns.length = some (i, 6)) := HMk.out rfl
                      clear HMk HFk K5
                      go_wp2_with fail
                      go_ret2
                      refine ⟨?_, KwR.and K5'⟩
                      rw [← HR.out, HP.out, HF0.out, HX.out]
                      rfl
                    | some j =>
                      have HX : Hid (∀ s ∈ l.take (k + 1), (findP ns s).isSome = true) := HFk.out rfl
                      clear HMk HFk K5
                      go_wp2_with fail
                      go_roundw
                      case rel => exact ⟨k + 1, by omega, by go_num, HX.out, K3.and K5'⟩
                      case measure => simp [intOf]; omega
                  · obtain rfl : k = l.length := by omega
                    rw [List.take_length] at hall
                    have HAll : Hid (∀ s ∈ l, (findP ns s).isSome = true) := hall
                    have HT3 : Hid (TextsAt wr (.slice av l.length cv) l) := hT3
                    obtain ⟨wq, hwq⟩ : ∃ wq, wq = wr := ⟨_, rfl⟩
                    subst hwq
                    have e4 : ¬ (l.length : Int) < (l.length : Int) := by omega
                    clear hall hT3 x0 x1
                    go_wp2_with fail
                    go_loopw [11] (fun q wr => ∃ (k : Nat), k ≤ l.length ∧ q = .int .i64 (k : Nat) ∧ (l.take k).Nodup ∧ Kept (fun _ => False) wq wr) (fun q _ => l.length - (intOf q).toNat)
                    case atStart => exact ⟨0, Nat.zero_le _, rfl, by simp, Kept.refl _ _⟩
                    case round =>
                      obtain ⟨k, hk, rfl, hnd, K6⟩ := hrel
                      by_cases hlk : k < l.length
                      · have e5 : (k : Int) < (l.length : Int) := by omega
                        have HNd : Hid ((l.take k).Nodup) := hnd
                        obtain ⟨wv, hwv⟩ : ∃ wv, wv = wr := ⟨_, rfl⟩
                        subst hwv
                        clear hnd
                        go_wp2_with fail
                        go_loopw [12] (fun q wr => ∃ (j : Nat), j ≤ k ∧ q = .int .i64 (j : Nat) ∧ l[k] ∉ l.take j ∧ Kept (fun _ => False) wv wr) (fun q _ => k - (intOf q).toNat)
                        case atStart => exact ⟨0, Nat.zero_le _, rfl, by simp, Kept.refl _ _⟩
                        case round =>
                          obtain ⟨j, hj, rfl, hni, K7⟩ := hrel
                          have KqR : Kept (fun _ => False) wq wr := K6.and K7
                          by_cases hjk : j < k
                          · have e6 : (j : Int) < (k : Int) := by omega
                            have e7 : (j : Int) < (l.length : Int) := by omega
                            have hjl : j < l.length := by omega
                            obtain ⟨a2, c2', hsl, hc2, hne⟩ := (HT3.out.kept KqR (fun _ _ h => h)).at
                            obtain ⟨rfl, rfl⟩ : av = a2 ∧ cv = c2' := by simpa using hsl
                            obtain ⟨xb, xo, rfl, hcell⟩ := hne (fun e => by rw [e] at hlk; simp at hlk)
                            have c1 := hcell k hlk
                            have c2 := hcell j hjl
                            have hse := str_eq l[j] l[k]
                            have w1 : IntKind.i64.wrap (j : Int) = (j : Int) := by rw [IntKind.wrap_i64]; omega
                            have w2 : IntKind.i64.wrap (k : Int) = (k : Int) := by rw [IntKind.wrap_i64]; omega
                            have HTk : Hid (l[j] = l[k] → firstE (aftAt ns) ns.length = some (i, 16)) := fun h => HTw.out HAll.out j k l[k] hjk (by rw [List.getElem?_eq_getElem hjl, h]) (List.getElem?_eq_getElem hlk)
                            have HNk : Hid (¬ l[j] = l[k] → l[k] ∉ l.take (j + 1)) := fun h => notin_next hjl hni h
                            clear hsl hne hcell hni
                            by_cases he : l[j] = l[k]
                            · have HX : Hid (firstE (aftAt ns) ns.length = some (i, 16)) := HTk.out he
                              simp only [he, decide_true] at hse
                              rw [he] at c2
                              clear HTk HNk he
                              generalize l[k] = s at *
                              go_wp2_with (first | go_quiet (fail) | fail)
                              go_ret2
                              refine ⟨?_, ((KwR.and KqR).and (Kept.drewN _ _ _))⟩
                              rw [← HR.out, HP.out, HF0.out, HX.out]
                              rfl
                            · have HX : Hid (l[k] ∉ l.take (j + 1)) := HNk.out he
                              simp only [he, decide_false] at hse
                              clear HTk HNk he
                              generalize l[j] = t at *
                              generalize hlkk : l[k] = s at *
                              have HLk : Hid (l[k] = s) := hlkk
                              clear hlkk
                              go_wp2_with (first | go_quiet (fail) | fail)
                              go_roundw
                              case rel => exact ⟨j + 1, by omega, by go_num, by first | exact HX.out | (rw [HLk.out]; exact HX.out), K7.and (Kept.drewN _ _ _)⟩
                              case measure => simp [intOf]; omega
                          · obtain rfl : j = k := by omega
                            have HX : Hid ((l.take (j + 1)).Nodup) := nodup_next hlk HNd.out hni
                            have e6 : ¬ (j : Int) < (j : Int) := by omega
                            clear hni
                            go_wp2_with fail
                            go_roundw
                            case rel => exact ⟨j + 1, by omega, by go_num, HX.out, KqR⟩
                            case measure => simp [intOf]; omega
                      · obtain rfl : k = l.length := by omega
                        rw [List.take_length] at hnd
                        have HX : Hid (firstE (aftAt ns) (i + 1) = none) := HOk.out HAll.out hnd
                        have e5 : ¬ (l.length : Int) < (l.length : Int) := by omega
                        clear hnd
                        go_wp2_with fail
                        go_roundw
                        case rel => exact ⟨i + 1, by omega, by go_num, HX.out, (K'.and K3).and K6⟩
                        case measure => simp [intOf]; omega
              · obtain rfl : i = ns.length := by omega
                have HF1 : Hid (firstE (aftAt ns) ns.length = none) := hfe
                have h1 := hor wr Kw' (uniq_of HF0.out)
                clear hfe hor
                by_cases hok : (ordP ns).length = ns.length
                · rw [show decide ((ordP ns).length = ns.length) = true by simpa using hok] at h1
                  go_wp2_with (first
                    | (go_at_call 31; refine h1.mono ?_; rintro e w2 ⟨av, cv, rfl, K2⟩; clear h1)
                    | fail)
                  go_ret2
                  refine ⟨?_, Kw'.and K2⟩
                  rw [← HR.out, HP.out, HF0.out, HF1.out]
                  simp only [hok, if_true]
                  rfl
                · rw [show decide ((ordP ns).length = ns.length) = false by simpa using hok] at h1
                  go_wp2_with (first
                    | (go_at_call 31; refine h1.mono ?_; rintro e w2 ⟨av, cv, rfl, K2⟩; clear h1)
                    | fail)
                  go_ret2
                  refine ⟨?_, Kw'.and K2⟩
                  rw [← HR.out, HP.out, HF0.out, HF1.out]
                  simp only [hok, if_false]
                  rfl

end Go.Proofs.YtlholgpenpfpbaaGreatDoor

/-
  The document's Text: what is written of a definition is the same.
-/
namespace Go.Proofs.YtlholgpenpfpbaaGreatDoor
open Go.RowKit

theorem joinTail_append (sep : List UInt8) (a b : List (List UInt8)) : Lib.joinTail sep (a ++ b) = Lib.joinTail sep a ++ Lib.joinTail sep b := by simp [Lib.joinTail]

/-- A node's line up to its k-th After. -/
def nodeT (x : Nd) (k : Nat) : List UInt8 := x.name.data.toList ++ Lib.joinTail [32] (bytesW (kindW x ++ aftW (x.after.take k)))

theorem nodeT_all (x : Nd) : nodeT x x.after.length = lineL [32] (wordsW x) := by
  unfold nodeT lineL wordsW
  rw [List.take_length]
  show _ = Lib.join (x.name.data.toList :: bytesW (kindW x ++ aftW x.after)) [32]
  rw [Lib.join_cons]

theorem nodeT_next {x : Nd} {k : Nat} (h : k < x.after.length) : nodeT x (k + 1) = nodeT x k ++ ((if k = 0 then [32, 97, 102, 116, 101, 114] else []) ++ ([32] ++ (x.after[k]).data.toList)) := by
  unfold nodeT bytesW
  rw [List.map_append, List.map_append, joinTail_append, joinTail_append, List.append_assoc, List.append_assoc]
  congr 2
  by_cases h0 : k = 0
  · subst h0
    rw [take_snoc h]
    simp [aftW, Lib.joinTail, aftB]
  · have hp : 0 < k := by omega
    have hne : x.after.take k ≠ [] := by
      intro e
      have := congrArg List.length e
      rw [List.length_take, List.length_nil] at this
      omega
    have hne2 : x.after.take (k + 1) ≠ [] := by
      intro e
      have := congrArg List.length e
      rw [List.length_take, List.length_nil] at this
      omega
    unfold aftW
    rw [if_neg hne, if_neg hne2, if_neg h0, take_snoc h, List.nil_append, List.map_cons, List.map_cons, List.map_append]
    show Lib.joinTail [32] ((aftB.data.toList :: List.map (fun x => x.data.toList) (x.after.take k)) ++ List.map (fun x => x.data.toList) [x.after[k]]) = _
    rw [joinTail_append]
    simp [Lib.joinTail]

theorem nodeT_len {x : Nd} (R : NdRight x) (h32 : x.after.length ≤ 32) : ∀ (d k : Nat), k + d = x.after.length → (nodeT x k).length ≤ 10280
  | 0, k, hk => by
    rw [show k = x.after.length by omega, nodeT_all]
    exact node_line R h32
  | d + 1, k, hk => by
    have h1 := nodeT_len R h32 d (k + 1) (by omega)
    rw [nodeT_next (by omega)] at h1
    simp only [List.length_append] at h1
    omega

theorem list_size {Z : ByteArray} {l : List UInt8} (h : Z.data.toList = l) : Z.size = l.length := by rw [← h]; simp

def BoxN (x : Nd) (av : Option Addr) (cv : Nat) : Array Value := #[.string x.name, .int .i64 x.kind, .string x.arg, .string x.to, .int .i64 x.delay, .int .i64 x.tries, .slice av x.after.length cv]

theorem tx1tt (Ls : ByteArray) (x : Nd) (k1 : x.kind = 1) (ht : x.tries ≠ 1) (hd : x.delay ≠ 0) : (Ls ++ x.name ++ ⟨#[32, 97, 99, 116, 105, 118, 105, 116, 121, 32]⟩ ++ x.arg ++ ⟨#[32, 116, 114, 105, 101, 115, 32]⟩ ++ itB x.tries ++ ⟨#[32, 116, 105, 109, 101, 111, 117, 116, 32]⟩ ++ itB x.delay).data.toList = Ls.data.toList ++ nodeT x 0 := by
  simp [nodeT, kindW, aftW, bytesW, Lib.joinTail, k1, ht, hd, actB, triB, tmoB]

theorem tx1tf (Ls : ByteArray) (x : Nd) (k1 : x.kind = 1) (ht : x.tries ≠ 1) (hd : x.delay = 0) : (Ls ++ x.name ++ ⟨#[32, 97, 99, 116, 105, 118, 105, 116, 121, 32]⟩ ++ x.arg ++ ⟨#[32, 116, 114, 105, 101, 115, 32]⟩ ++ itB x.tries).data.toList = Ls.data.toList ++ nodeT x 0 := by
  simp [nodeT, kindW, aftW, bytesW, Lib.joinTail, k1, ht, hd, actB, triB]

theorem tx1ft (Ls : ByteArray) (x : Nd) (k1 : x.kind = 1) (ht : x.tries = 1) (hd : x.delay ≠ 0) : (Ls ++ x.name ++ ⟨#[32, 97, 99, 116, 105, 118, 105, 116, 121, 32]⟩ ++ x.arg ++ ⟨#[32, 116, 105, 109, 101, 111, 117, 116, 32]⟩ ++ itB x.delay).data.toList = Ls.data.toList ++ nodeT x 0 := by
  simp [nodeT, kindW, aftW, bytesW, Lib.joinTail, k1, ht, hd, actB, tmoB]

theorem tx1ff (Ls : ByteArray) (x : Nd) (k1 : x.kind = 1) (ht : x.tries = 1) (hd : x.delay = 0) : (Ls ++ x.name ++ ⟨#[32, 97, 99, 116, 105, 118, 105, 116, 121, 32]⟩ ++ x.arg).data.toList = Ls.data.toList ++ nodeT x 0 := by
  simp [nodeT, kindW, aftW, bytesW, Lib.joinTail, k1, ht, hd, actB]

theorem tx2 (Ls : ByteArray) (x : Nd) (k1 : x.kind = 2) : (Ls ++ x.name ++ ⟨#[32, 116, 105, 109, 101, 114, 32]⟩ ++ itB x.delay).data.toList = Ls.data.toList ++ nodeT x 0 := by
  simp [nodeT, kindW, aftW, bytesW, Lib.joinTail, k1, timB]

theorem tx3 (Ls : ByteArray) (x : Nd) (k1 : x.kind = 3) : (Ls ++ x.name ++ ⟨#[32, 99, 104, 105, 108, 100, 32]⟩ ++ x.arg).data.toList = Ls.data.toList ++ nodeT x 0 := by
  simp [nodeT, kindW, aftW, bytesW, Lib.joinTail, k1, chiB]

theorem tx4 (Ls : ByteArray) (x : Nd) (k1 : x.kind = 4) : (Ls ++ x.name ++ ⟨#[32, 119, 97, 105, 116, 32]⟩ ++ x.arg).data.toList = Ls.data.toList ++ nodeT x 0 := by
  simp [nodeT, kindW, aftW, bytesW, Lib.joinTail, k1, waiB]

theorem tx5 (Ls : ByteArray) (x : Nd) (k1 : x.kind = 5) : (Ls ++ x.name ++ ⟨#[32, 115, 101, 110, 100, 32]⟩ ++ x.to ++ ⟨#[32]⟩ ++ x.arg).data.toList = Ls.data.toList ++ nodeT x 0 := by
  simp [nodeT, kindW, aftW, bytesW, Lib.joinTail, k1, senB]

end Go.Proofs.YtlholgpenpfpbaaGreatDoor

/-
  The document's Text: its walk.
-/
namespace Go.Proofs.YtlholgpenpfpbaaGreatDoor
open Go.RowKit

theorem right_kinds {x : Nd} (R : NdRight x) : x.kind = 1 ∨ x.kind = 2 ∨ x.kind = 3 ∨ x.kind = 4 ∨ x.kind = 5 := by
  have hf := R.fits
  by_cases k1 : x.kind = 1; · exact .inl k1
  by_cases k2 : x.kind = 2; · exact .inr (.inl k2)
  by_cases k3 : x.kind = 3; · exact .inr (.inr (.inl k3))
  by_cases k4 : x.kind = 4; · exact .inr (.inr (.inr (.inl k4)))
  by_cases k5 : x.kind = 5; · exact .inr (.inr (.inr (.inr k5)))
  unfold fitsP at hf
  simp [k1, k2, k3, k4, k5] at hf

theorem right_small {x : Nd} (R : NdRight x) : x.name.size ≤ 64 ∧ x.arg.size ≤ 64 ∧ (x.kind = 5 → x.to.size ≤ 256) ∧ (∃ n : Nat, x.delay = (n : Int) ∧ n ≤ 1000000) ∧ (x.kind = 1 → ∃ n : Nat, x.tries = (n : Int) ∧ n ≤ 10) := by
  have hf := R.fits
  have hnm := R.named
  unfold namedP at hnm
  simp only [Bool.and_eq_true, Bool.or_eq_true, beq_iff_eq, bne_iff_ne] at hnm
  obtain ⟨⟨hn, ha⟩, ht⟩ := hnm
  unfold fitsP at hf
  by_cases hd : (x.delay < 0 || x.delay > 1000000) = true
  · rw [if_pos hd] at hf; cases hf
  · rw [if_neg hd] at hf
    simp at hd
    refine ⟨name_small64 hn, ?_, fun k5 => ?_, ⟨x.delay.toNat, by omega, by omega⟩, fun k1 => ?_⟩
    · rcases ha with h | h
      · simp [h] at hf
        rw [hf.2]
        decide
      · exact name_small64 h
    · rcases ht with h | h
      · exact absurd k5 h
      · exact flow_small256 h
    · simp [k1] at hf
      exact ⟨x.tries.toNat, by omega, by omega⟩

theorem list_mkB {x : ByteArray} {l : List UInt8} (h : x.data.toList = l) : x = mkB l := by rw [← h, mkB_data]

/-- A node boxed at the end of wo. -/
structure NbSt (wo W : World) (x : Nd) (av : Option Addr) (cv : Nat) : Prop where
  blk : W.heap[wo.heap.size]? = some (.cells #[.string x.name, .int .i64 x.kind, .string x.arg, .string x.to, .int .i64 x.delay, .int .i64 x.tries, .slice av x.after.length cv] 35 (0, 0))
  kept : Kept (fun _ => False) wo W

theorem NbSt.new (wo : World) (x : Nd) (av : Option Addr) (cv : Nat) : NbSt wo (wo.alloc (.cells #[.string x.name, .int .i64 x.kind, .string x.arg, .string x.to, .int .i64 x.delay, .int .i64 x.tries, .slice av x.after.length cv] 35)) x av cv := ⟨heap_alloc_new _ _, Kept.alloc _ _ _⟩

theorem NbSt.call {wo W W' : World} {x : Nd} {av : Option Addr} {cv : Nat} (S : NbSt wo W x av cv) (K : Kept (fun _ => False) W W') : NbSt wo W' x av cv := ⟨(K.block _ (Array.getElem?_eq_some_iff.1 S.blk).1 (fun h => h)).trans S.blk, S.kept.and K⟩

set_option maxRecDepth 100000 in
set_option maxHeartbeats 8000000 in
theorem refText_any (w : World) (name : ByteArray) (a : Option Addr) (c : Nat) (ns : List Nd) (hN : NodesAt w a ns) (hn : ns.length ≤ 1000) (hf : ∀ n ∈ ns, n.after.length ≤ 1000000) (hnm : name.size ≤ maxLen) :
    Calls Tryz.prog 6 #[.agg #[.string name, .slice a ns.length c]] w fun e w' => e = .returned (.string (textP name ns)) ∧ Kept (fun _ => False) w w' := by
  have K0 : Kept (fun _ => False) w (w.alloc (.cells #[.string name, .slice a ns.length c] 24)) := Kept.alloc _ _ _
  have hck := refCheck_any (w.alloc (.cells #[.string name, .slice a ns.length c] 24)) name a c ns (hN.kept K0 (fun _ _ h => h)) (by omega) hf hnm
  by_cases hc : (checkP name ns).2 = 0
  · obtain ⟨hnm, h32, h1, hns⟩ := check_right hc
    have hlen : ∀ k, k ≤ ns.length → (textL [32] (linesW name (ns.take k))).length ≤ 400000 := fun k hk => by
      have := text_len hnm (ns.take k) (fun x hx => hns x (List.mem_of_mem_take hx))
      rw [List.length_take] at this
      omega
    have hTP : textP name ns = mkB (textL [32] (linesW name ns)) := if_pos hc
    rw [hc] at hck
    generalize (checkP name ns).1 = y at *
    have HTP : Hid (textP name ns = mkB (textL [32] (linesW name ns))) := hTP
    have HLen : Hid (∀ k, k ≤ ns.length → (textL [32] (linesW name (ns.take k))).length ≤ 400000) := hlen
    have HNs : Hid (∀ n ∈ ns, NdRight n ∧ n.after.length ≤ 32) := hns
    have HN : Hid (NodesAt w a ns) := hN
    have hn64 := name_small64 hnm
    have hfirst : ((⟨#[119, 111, 114, 107, 102, 108, 111, 119, 32]⟩ : ByteArray) ++ name ++ ⟨#[10]⟩).data.toList = textL [32] (linesW name (ns.take 0)) := by
      rw [bytes_add, bytes_add]
      simp [textL, linesW, lineL, bytesW, Lib.join, List.intercalate, wfB]
    have HF : Hid (((⟨#[119, 111, 114, 107, 102, 108, 111, 119, 32]⟩ : ByteArray) ++ name ++ ⟨#[10]⟩).data.toList = textL [32] (linesW name (ns.take 0))) := hfirst
    clear hc hTP hlen hns hN hfirst hnm K0 h1 hf hn
    go_enter Tryz.func6, Tryz.ntmps6
    go_wp2_with (first
      | (go_at_call 15; refine hck.mono ?_; rintro e w1 ⟨rfl, K1⟩; clear hck; obtain ⟨d0, d1⟩ := boxD K1; have HK1 : Hid (Kept (fun _ => False) (w.alloc (.cells #[.string name, .slice a ns.length c] 24)) w1) := K1; clear K1)
      | fail)
    clear d0 d1
    go_loopw [5, 6] (fun p q wr => ∃ (i : Nat) (Ls : ByteArray), i ≤ ns.length ∧ q = .int .i64 i ∧ p = .string Ls ∧ Ls.data.toList = textL [32] (linesW name (ns.take i)) ∧ Kept (fun _ => False) (w.alloc (.cells #[.string name, .slice a ns.length c] 24)) wr) (fun _ q _ => ns.length - (intOf q).toNat)
    case atStart => exact ⟨0, _, Nat.zero_le _, rfl, rfl, HF.out, HK1.out⟩
    case round =>
      obtain ⟨wo, hwo⟩ : ∃ wo, wo = wr := ⟨_, rfl⟩
      subst hwo
      obtain ⟨i, Ls, hi, rfl, rfl, hLs, K⟩ := hrel
      have Kw := (Kept.alloc (fun _ => False) w _).and K
      obtain ⟨d0, d1⟩ := boxD K
      have HLn : Hid ((textL [32] (linesW name (ns.take i))).length ≤ 400000) := HLen.out i hi
      have hLsz : Ls.size ≤ 400000 := by rw [list_size hLs]; exact HLn.out
      have HKo : Hid (Kept (fun _ => False) (w.alloc (.cells #[.string name, .slice a ns.length c] 24)) wo) := K
      clear K HK1 HF
      by_cases hlt : i < ns.length
      · obtain ⟨b, o, av, cv, hae, hT, c0, c1, c2, c3, c4, c5, c6⟩ := (HN.out.kept Kw (fun _ _ h => h)).at hlt
        have HR : Hid (NdRight ns[i] ∧ (ns[i]).after.length ≤ 32) := HNs.out _ (List.getElem_mem hlt)
        have hnx : textL [32] (linesW name (ns.take (i + 1))) = textL [32] (linesW name (ns.take i)) ++ (lineL [32] (wordsW ns[i]) ++ [10]) := by
          rw [← textL_snoc, take_snoc hlt]
          unfold linesW
          rw [List.map_append]
          rfl
        have HX : Hid (textL [32] (linesW name (ns.take (i + 1))) = textL [32] (linesW name (ns.take i)) ++ (lineL [32] (wordsW ns[i]) ++ [10])) := hnx
        have HTx : Hid (TextsAt wo (.slice av (ns[i]).after.length cv) (ns[i]).after) := hT
        have e0 : (i : Int) < (ns.length : Int) := by omega
        clear hT hnx
        generalize ns[i] = x at *
        have HLs : Hid (Ls.data.toList = textL [32] (linesW name (ns.take i))) := hLs
        clear hLs
        generalize textL [32] (linesW name (ns.take i)) = L at *
        have hfew : x.after.length ≤ 32 := HR.out.2
        have B1 := NbSt.new wo x av cv
        obtain ⟨⟨n0, n1, n2, n3, n4, n5, n6⟩, _⟩ := seven B1.blk
        obtain ⟨s1, s2, s3, ⟨dn, hdn, hdm⟩, s5⟩ := right_small HR.out.1
        have hDd := fun V => digits_any V dn hdm
        rw [← hdn] at hDd
        have s6 : (itB x.delay).size ≤ 15 := itB_small (by omega) (by omega)
        clear hdn hdm
        subst hae
        rcases right_kinds HR.out.1 with k1 | k1 | k1 | k1 | k1
        · obtain ⟨tn, htn, htm⟩ := s5 k1
          have hDt := fun V => digits_any V tn (by omega)
          rw [← htn] at hDt
          have s7 : (itB x.tries).size ≤ 15 := itB_small (by omega) (by omega)
          clear htn htm s5 s3
          by_cases ht : x.tries = 1
          · by_cases hd : x.delay = 0
            · have g1 : (x.tries != 1) = false := by simp [ht]
              have g2 : (x.delay != 0) = false := by simp [hd]
              have HZ : Hid ((Ls ++ x.name ++ ⟨#[32, 97, 99, 116, 105, 118, 105, 116, 121, 32]⟩ ++ x.arg).data.toList = L ++ nodeT x 0) := by show _ = _; rw [← HLs.out]; exact tx1ff Ls x k1 ht hd
              clear ht
              clear hd
              have HK1 : Hid (x.kind = 1) := k1
              have q1 : (x.kind == 1) = true := by rw [k1]; rfl
              clear k1
              go_wp2_with (first | fail)
              have HB1 : Hid (NbSt wo _ x av cv) := B1
              clear B1 n0 n1 n2 n3 n4 n5 n6
              go_loopw [5, 8] (fun p q wq => ∃ (k : Nat) (Z : ByteArray), k ≤ x.after.length ∧ q = .int .i64 k ∧ p = .string Z ∧ Z.data.toList = L ++ nodeT x k ∧ NbSt wo wq x av cv) (fun _ q _ => x.after.length - (intOf q).toNat)
              case atStart => exact ⟨0, _, Nat.zero_le _, rfl, rfl, HZ.out, HB1.out⟩
              case round =>
                obtain ⟨k, Z, hk, rfl, rfl, hZ, B⟩ := hrel
                have hsz : Z.size ≤ 410280 := by have h1 := list_size hZ; rw [List.length_append] at h1; have h2 := HLn.out; have h3 := nodeT_len HR.out.1 HR.out.2 (x.after.length - k) k (by omega); omega
                obtain ⟨⟨n0, n1, n2, n3, n4, n5, n6⟩, _⟩ := seven B.blk
                have HZk : Hid (Z.data.toList = L ++ nodeT x k) := hZ
                have HB : Hid (NbSt wo wr x av cv) := B
                clear hZ HZ HB1
                by_cases hlt : k < x.after.length
                · obtain ⟨a2, c2, hsl, hc2, hne⟩ := (HTx.out.kept B.kept (fun _ _ h => h)).at
                  obtain ⟨rfl, rfl⟩ : av = a2 ∧ cv = c2 := by simpa using hsl
                  obtain ⟨xb, xo, rfl, hcell⟩ := hne (fun e => by rw [e] at hlt; simp at hlt)
                  have hck := hcell k hlt
                  have hxs : (x.after[k]).size ≤ 64 := name_small64 (HR.out.1.after _ (List.getElem_mem hlt))
                  have e1 : (k : Int) < (x.after.length : Int) := by omega
                  have HNx : Hid (nodeT x (k + 1) = nodeT x k ++ ((if k = 0 then [32, 97, 102, 116, 101, 114] else []) ++ ([32] ++ (x.after[k]).data.toList))) := nodeT_next hlt
                  generalize x.after[k] = ak at *
                  clear hsl hcell hne B
                  by_cases h0 : k = 0
                  · have e2 : ((k : Int) == 0) = true := by simp [h0]
                    have HZ2 : Hid ((Z ++ ⟨#[32, 97, 102, 116, 101, 114]⟩ ++ ⟨#[32]⟩ ++ ak).data.toList = L ++ nodeT x (k + 1)) := by show _ = _; rw [HNx.out, if_pos h0, add_list, add_list, add_list, HZk.out]; simp
                    clear h0 HNx HZk
                    go_wp2_with fail
                    go_roundw
                    case rel => exact ⟨k + 1, _, by omega, by go_num, rfl, HZ2.out, HB.out⟩
                    case measure => simp [intOf]; omega
                  · have e2 : ((k : Int) == 0) = false := by simp; omega
                    have HZ2 : Hid ((Z ++ ⟨#[32]⟩ ++ ak).data.toList = L ++ nodeT x (k + 1)) := by show _ = _; rw [HNx.out, if_neg h0, add_list, add_list, HZk.out]; simp
                    clear h0 HNx HZk
                    go_wp2_with fail
                    go_roundw
                    case rel => exact ⟨k + 1, _, by omega, by go_num, rfl, HZ2.out, HB.out⟩
                    case measure => simp [intOf]; omega
                · have hke : k = x.after.length := by omega
                  subst hke
                  have e1 : ¬ (x.after.length : Int) < (x.after.length : Int) := by omega
                  have HZ2 : Hid ((Z ++ ⟨#[10]⟩).data.toList = textL [32] (linesW name (ns.take (i + 1)))) := by show _ = _; rw [HX.out, add_list, HZk.out, nodeT_all]; simp
                  clear HZk B
                  go_wp2_with fail
                  go_roundw
                  case rel => exact ⟨i + 1, _, by omega, by go_num, rfl, HZ2.out, HKo.out.and HB.out.kept⟩
                  case measure => simp [intOf]; omega
            · have g1 : (x.tries != 1) = false := by simp [ht]
              have g2 : (x.delay != 0) = true := by simp [hd]
              have HZ : Hid ((Ls ++ x.name ++ ⟨#[32, 97, 99, 116, 105, 118, 105, 116, 121, 32]⟩ ++ x.arg ++ ⟨#[32, 116, 105, 109, 101, 111, 117, 116, 32]⟩ ++ itB x.delay).data.toList = L ++ nodeT x 0) := by show _ = _; rw [← HLs.out]; exact tx1ft Ls x k1 ht hd
              clear ht
              clear hd
              have HK1 : Hid (x.kind = 1) := k1
              have q1 : (x.kind == 1) = true := by rw [k1]; rfl
              clear k1
              go_wp2_with (first
                | (go_at_call_of 16 (Value.int .i64 x.delay); refine (hDd _).mono ?_; rintro e wd ⟨rfl, Kd⟩; clear hDd; have B2 := B1.call Kd; clear B1 Kd n0 n1 n2 n3 n4 n5 n6; have B1 := B2; clear B2; obtain ⟨⟨n0, n1, n2, n3, n4, n5, n6⟩, _⟩ := seven B1.blk) | fail)
              have HB1 : Hid (NbSt wo _ x av cv) := B1
              clear B1 n0 n1 n2 n3 n4 n5 n6
              go_loopw [5, 8] (fun p q wq => ∃ (k : Nat) (Z : ByteArray), k ≤ x.after.length ∧ q = .int .i64 k ∧ p = .string Z ∧ Z.data.toList = L ++ nodeT x k ∧ NbSt wo wq x av cv) (fun _ q _ => x.after.length - (intOf q).toNat)
              case atStart => exact ⟨0, _, Nat.zero_le _, rfl, rfl, HZ.out, HB1.out⟩
              case round =>
                obtain ⟨k, Z, hk, rfl, rfl, hZ, B⟩ := hrel
                have hsz : Z.size ≤ 410280 := by have h1 := list_size hZ; rw [List.length_append] at h1; have h2 := HLn.out; have h3 := nodeT_len HR.out.1 HR.out.2 (x.after.length - k) k (by omega); omega
                obtain ⟨⟨n0, n1, n2, n3, n4, n5, n6⟩, _⟩ := seven B.blk
                have HZk : Hid (Z.data.toList = L ++ nodeT x k) := hZ
                have HB : Hid (NbSt wo wr x av cv) := B
                clear hZ HZ HB1
                by_cases hlt : k < x.after.length
                · obtain ⟨a2, c2, hsl, hc2, hne⟩ := (HTx.out.kept B.kept (fun _ _ h => h)).at
                  obtain ⟨rfl, rfl⟩ : av = a2 ∧ cv = c2 := by simpa using hsl
                  obtain ⟨xb, xo, rfl, hcell⟩ := hne (fun e => by rw [e] at hlt; simp at hlt)
                  have hck := hcell k hlt
                  have hxs : (x.after[k]).size ≤ 64 := name_small64 (HR.out.1.after _ (List.getElem_mem hlt))
                  have e1 : (k : Int) < (x.after.length : Int) := by omega
                  have HNx : Hid (nodeT x (k + 1) = nodeT x k ++ ((if k = 0 then [32, 97, 102, 116, 101, 114] else []) ++ ([32] ++ (x.after[k]).data.toList))) := nodeT_next hlt
                  generalize x.after[k] = ak at *
                  clear hsl hcell hne B
                  by_cases h0 : k = 0
                  · have e2 : ((k : Int) == 0) = true := by simp [h0]
                    have HZ2 : Hid ((Z ++ ⟨#[32, 97, 102, 116, 101, 114]⟩ ++ ⟨#[32]⟩ ++ ak).data.toList = L ++ nodeT x (k + 1)) := by show _ = _; rw [HNx.out, if_pos h0, add_list, add_list, add_list, HZk.out]; simp
                    clear h0 HNx HZk
                    go_wp2_with fail
                    go_roundw
                    case rel => exact ⟨k + 1, _, by omega, by go_num, rfl, HZ2.out, HB.out⟩
                    case measure => simp [intOf]; omega
                  · have e2 : ((k : Int) == 0) = false := by simp; omega
                    have HZ2 : Hid ((Z ++ ⟨#[32]⟩ ++ ak).data.toList = L ++ nodeT x (k + 1)) := by show _ = _; rw [HNx.out, if_neg h0, add_list, add_list, HZk.out]; simp
                    clear h0 HNx HZk
                    go_wp2_with fail
                    go_roundw
                    case rel => exact ⟨k + 1, _, by omega, by go_num, rfl, HZ2.out, HB.out⟩
                    case measure => simp [intOf]; omega
                · have hke : k = x.after.length := by omega
                  subst hke
                  have e1 : ¬ (x.after.length : Int) < (x.after.length : Int) := by omega
                  have HZ2 : Hid ((Z ++ ⟨#[10]⟩).data.toList = textL [32] (linesW name (ns.take (i + 1)))) := by show _ = _; rw [HX.out, add_list, HZk.out, nodeT_all]; simp
                  clear HZk B
                  go_wp2_with fail
                  go_roundw
                  case rel => exact ⟨i + 1, _, by omega, by go_num, rfl, HZ2.out, HKo.out.and HB.out.kept⟩
                  case measure => simp [intOf]; omega
          · by_cases hd : x.delay = 0
            · have g1 : (x.tries != 1) = true := by simp [ht]
              have g2 : (x.delay != 0) = false := by simp [hd]
              have HZ : Hid ((Ls ++ x.name ++ ⟨#[32, 97, 99, 116, 105, 118, 105, 116, 121, 32]⟩ ++ x.arg ++ ⟨#[32, 116, 114, 105, 101, 115, 32]⟩ ++ itB x.tries).data.toList = L ++ nodeT x 0) := by show _ = _; rw [← HLs.out]; exact tx1tf Ls x k1 ht hd
              clear ht
              clear hd
              have HK1 : Hid (x.kind = 1) := k1
              have q1 : (x.kind == 1) = true := by rw [k1]; rfl
              clear k1
              go_wp2_with (first
                | (go_at_call_of 16 (Value.int .i64 x.tries); refine (hDt _).mono ?_; rintro e wd ⟨rfl, Kd⟩; clear hDt; have B2 := B1.call Kd; clear B1 Kd n0 n1 n2 n3 n4 n5 n6; have B1 := B2; clear B2; obtain ⟨⟨n0, n1, n2, n3, n4, n5, n6⟩, _⟩ := seven B1.blk) | fail)
              have HB1 : Hid (NbSt wo _ x av cv) := B1
              clear B1 n0 n1 n2 n3 n4 n5 n6
              go_loopw [5, 8] (fun p q wq => ∃ (k : Nat) (Z : ByteArray), k ≤ x.after.length ∧ q = .int .i64 k ∧ p = .string Z ∧ Z.data.toList = L ++ nodeT x k ∧ NbSt wo wq x av cv) (fun _ q _ => x.after.length - (intOf q).toNat)
              case atStart => exact ⟨0, _, Nat.zero_le _, rfl, rfl, HZ.out, HB1.out⟩
              case round =>
                obtain ⟨k, Z, hk, rfl, rfl, hZ, B⟩ := hrel
                have hsz : Z.size ≤ 410280 := by have h1 := list_size hZ; rw [List.length_append] at h1; have h2 := HLn.out; have h3 := nodeT_len HR.out.1 HR.out.2 (x.after.length - k) k (by omega); omega
                obtain ⟨⟨n0, n1, n2, n3, n4, n5, n6⟩, _⟩ := seven B.blk
                have HZk : Hid (Z.data.toList = L ++ nodeT x k) := hZ
                have HB : Hid (NbSt wo wr x av cv) := B
                clear hZ HZ HB1
                by_cases hlt : k < x.after.length
                · obtain ⟨a2, c2, hsl, hc2, hne⟩ := (HTx.out.kept B.kept (fun _ _ h => h)).at
                  obtain ⟨rfl, rfl⟩ : av = a2 ∧ cv = c2 := by simpa using hsl
                  obtain ⟨xb, xo, rfl, hcell⟩ := hne (fun e => by rw [e] at hlt; simp at hlt)
                  have hck := hcell k hlt
                  have hxs : (x.after[k]).size ≤ 64 := name_small64 (HR.out.1.after _ (List.getElem_mem hlt))
                  have e1 : (k : Int) < (x.after.length : Int) := by omega
                  have HNx : Hid (nodeT x (k + 1) = nodeT x k ++ ((if k = 0 then [32, 97, 102, 116, 101, 114] else []) ++ ([32] ++ (x.after[k]).data.toList))) := nodeT_next hlt
                  generalize x.after[k] = ak at *
                  clear hsl hcell hne B
                  by_cases h0 : k = 0
                  · have e2 : ((k : Int) == 0) = true := by simp [h0]
                    have HZ2 : Hid ((Z ++ ⟨#[32, 97, 102, 116, 101, 114]⟩ ++ ⟨#[32]⟩ ++ ak).data.toList = L ++ nodeT x (k + 1)) := by show _ = _; rw [HNx.out, if_pos h0, add_list, add_list, add_list, HZk.out]; simp
                    clear h0 HNx HZk
                    go_wp2_with fail
                    go_roundw
                    case rel => exact ⟨k + 1, _, by omega, by go_num, rfl, HZ2.out, HB.out⟩
                    case measure => simp [intOf]; omega
                  · have e2 : ((k : Int) == 0) = false := by simp; omega
                    have HZ2 : Hid ((Z ++ ⟨#[32]⟩ ++ ak).data.toList = L ++ nodeT x (k + 1)) := by show _ = _; rw [HNx.out, if_neg h0, add_list, add_list, HZk.out]; simp
                    clear h0 HNx HZk
                    go_wp2_with fail
                    go_roundw
                    case rel => exact ⟨k + 1, _, by omega, by go_num, rfl, HZ2.out, HB.out⟩
                    case measure => simp [intOf]; omega
                · have hke : k = x.after.length := by omega
                  subst hke
                  have e1 : ¬ (x.after.length : Int) < (x.after.length : Int) := by omega
                  have HZ2 : Hid ((Z ++ ⟨#[10]⟩).data.toList = textL [32] (linesW name (ns.take (i + 1)))) := by show _ = _; rw [HX.out, add_list, HZk.out, nodeT_all]; simp
                  clear HZk B
                  go_wp2_with fail
                  go_roundw
                  case rel => exact ⟨i + 1, _, by omega, by go_num, rfl, HZ2.out, HKo.out.and HB.out.kept⟩
                  case measure => simp [intOf]; omega
            · have g1 : (x.tries != 1) = true := by simp [ht]
              have g2 : (x.delay != 0) = true := by simp [hd]
              have HZ : Hid ((Ls ++ x.name ++ ⟨#[32, 97, 99, 116, 105, 118, 105, 116, 121, 32]⟩ ++ x.arg ++ ⟨#[32, 116, 114, 105, 101, 115, 32]⟩ ++ itB x.tries ++ ⟨#[32, 116, 105, 109, 101, 111, 117, 116, 32]⟩ ++ itB x.delay).data.toList = L ++ nodeT x 0) := by show _ = _; rw [← HLs.out]; exact tx1tt Ls x k1 ht hd
              clear ht
              clear hd
              have HK1 : Hid (x.kind = 1) := k1
              have q1 : (x.kind == 1) = true := by rw [k1]; rfl
              clear k1
              go_wp2_with (first
                | (go_at_call_of 16 (Value.int .i64 x.tries); refine (hDt _).mono ?_; rintro e wd ⟨rfl, Kd⟩; clear hDt; have B2 := B1.call Kd; clear B1 Kd n0 n1 n2 n3 n4 n5 n6; have B1 := B2; clear B2; obtain ⟨⟨n0, n1, n2, n3, n4, n5, n6⟩, _⟩ := seven B1.blk)
                | (go_at_call_of 16 (Value.int .i64 x.delay); refine (hDd _).mono ?_; rintro e wd ⟨rfl, Kd⟩; clear hDd; have B2 := B1.call Kd; clear B1 Kd n0 n1 n2 n3 n4 n5 n6; have B1 := B2; clear B2; obtain ⟨⟨n0, n1, n2, n3, n4, n5, n6⟩, _⟩ := seven B1.blk) | fail)
              have HB1 : Hid (NbSt wo _ x av cv) := B1
              clear B1 n0 n1 n2 n3 n4 n5 n6
              go_loopw [5, 8] (fun p q wq => ∃ (k : Nat) (Z : ByteArray), k ≤ x.after.length ∧ q = .int .i64 k ∧ p = .string Z ∧ Z.data.toList = L ++ nodeT x k ∧ NbSt wo wq x av cv) (fun _ q _ => x.after.length - (intOf q).toNat)
              case atStart => exact ⟨0, _, Nat.zero_le _, rfl, rfl, HZ.out, HB1.out⟩
              case round =>
                obtain ⟨k, Z, hk, rfl, rfl, hZ, B⟩ := hrel
                have hsz : Z.size ≤ 410280 := by have h1 := list_size hZ; rw [List.length_append] at h1; have h2 := HLn.out; have h3 := nodeT_len HR.out.1 HR.out.2 (x.after.length - k) k (by omega); omega
                obtain ⟨⟨n0, n1, n2, n3, n4, n5, n6⟩, _⟩ := seven B.blk
                have HZk : Hid (Z.data.toList = L ++ nodeT x k) := hZ
                have HB : Hid (NbSt wo wr x av cv) := B
                clear hZ HZ HB1
                by_cases hlt : k < x.after.length
                · obtain ⟨a2, c2, hsl, hc2, hne⟩ := (HTx.out.kept B.kept (fun _ _ h => h)).at
                  obtain ⟨rfl, rfl⟩ : av = a2 ∧ cv = c2 := by simpa using hsl
                  obtain ⟨xb, xo, rfl, hcell⟩ := hne (fun e => by rw [e] at hlt; simp at hlt)
                  have hck := hcell k hlt
                  have hxs : (x.after[k]).size ≤ 64 := name_small64 (HR.out.1.after _ (List.getElem_mem hlt))
                  have e1 : (k : Int) < (x.after.length : Int) := by omega
                  have HNx : Hid (nodeT x (k + 1) = nodeT x k ++ ((if k = 0 then [32, 97, 102, 116, 101, 114] else []) ++ ([32] ++ (x.after[k]).data.toList))) := nodeT_next hlt
                  generalize x.after[k] = ak at *
                  clear hsl hcell hne B
                  by_cases h0 : k = 0
                  · have e2 : ((k : Int) == 0) = true := by simp [h0]
                    have HZ2 : Hid ((Z ++ ⟨#[32, 97, 102, 116, 101, 114]⟩ ++ ⟨#[32]⟩ ++ ak).data.toList = L ++ nodeT x (k + 1)) := by show _ = _; rw [HNx.out, if_pos h0, add_list, add_list, add_list, HZk.out]; simp
                    clear h0 HNx HZk
                    go_wp2_with fail
                    go_roundw
                    case rel => exact ⟨k + 1, _, by omega, by go_num, rfl, HZ2.out, HB.out⟩
                    case measure => simp [intOf]; omega
                  · have e2 : ((k : Int) == 0) = false := by simp; omega
                    have HZ2 : Hid ((Z ++ ⟨#[32]⟩ ++ ak).data.toList = L ++ nodeT x (k + 1)) := by show _ = _; rw [HNx.out, if_neg h0, add_list, add_list, HZk.out]; simp
                    clear h0 HNx HZk
                    go_wp2_with fail
                    go_roundw
                    case rel => exact ⟨k + 1, _, by omega, by go_num, rfl, HZ2.out, HB.out⟩
                    case measure => simp [intOf]; omega
                · have hke : k = x.after.length := by omega
                  subst hke
                  have e1 : ¬ (x.after.length : Int) < (x.after.length : Int) := by omega
                  have HZ2 : Hid ((Z ++ ⟨#[10]⟩).data.toList = textL [32] (linesW name (ns.take (i + 1)))) := by show _ = _; rw [HX.out, add_list, HZk.out, nodeT_all]; simp
                  clear HZk B
                  go_wp2_with fail
                  go_roundw
                  case rel => exact ⟨i + 1, _, by omega, by go_num, rfl, HZ2.out, HKo.out.and HB.out.kept⟩
                  case measure => simp [intOf]; omega
        · clear s5 s3
          have HZ : Hid ((Ls ++ x.name ++ ⟨#[32, 116, 105, 109, 101, 114, 32]⟩ ++ itB x.delay).data.toList = L ++ nodeT x 0) := by show _ = _; rw [← HLs.out]; exact tx2 Ls x k1
          have HK1 : Hid (x.kind = 2) := k1
          have q1 : (x.kind == 1) = false := by rw [k1]; rfl
          have q2 : (x.kind == 2) = true := by rw [k1]; rfl
          clear k1
          go_wp2_with (first
            | (go_at_call_of 16 (Value.int .i64 x.delay); refine (hDd _).mono ?_; rintro e wd ⟨rfl, Kd⟩; clear hDd; have B2 := B1.call Kd; clear B1 Kd n0 n1 n2 n3 n4 n5 n6; have B1 := B2; clear B2; obtain ⟨⟨n0, n1, n2, n3, n4, n5, n6⟩, _⟩ := seven B1.blk) | fail)
          have HB1 : Hid (NbSt wo _ x av cv) := B1
          clear B1 n0 n1 n2 n3 n4 n5 n6
          go_loopw [5, 8] (fun p q wq => ∃ (k : Nat) (Z : ByteArray), k ≤ x.after.length ∧ q = .int .i64 k ∧ p = .string Z ∧ Z.data.toList = L ++ nodeT x k ∧ NbSt wo wq x av cv) (fun _ q _ => x.after.length - (intOf q).toNat)
          case atStart => exact ⟨0, _, Nat.zero_le _, rfl, rfl, HZ.out, HB1.out⟩
          case round =>
            obtain ⟨k, Z, hk, rfl, rfl, hZ, B⟩ := hrel
            have hsz : Z.size ≤ 410280 := by have h1 := list_size hZ; rw [List.length_append] at h1; have h2 := HLn.out; have h3 := nodeT_len HR.out.1 HR.out.2 (x.after.length - k) k (by omega); omega
            obtain ⟨⟨n0, n1, n2, n3, n4, n5, n6⟩, _⟩ := seven B.blk
            have HZk : Hid (Z.data.toList = L ++ nodeT x k) := hZ
            have HB : Hid (NbSt wo wr x av cv) := B
            clear hZ HZ HB1
            by_cases hlt : k < x.after.length
            · obtain ⟨a2, c2, hsl, hc2, hne⟩ := (HTx.out.kept B.kept (fun _ _ h => h)).at
              obtain ⟨rfl, rfl⟩ : av = a2 ∧ cv = c2 := by simpa using hsl
              obtain ⟨xb, xo, rfl, hcell⟩ := hne (fun e => by rw [e] at hlt; simp at hlt)
              have hck := hcell k hlt
              have hxs : (x.after[k]).size ≤ 64 := name_small64 (HR.out.1.after _ (List.getElem_mem hlt))
              have e1 : (k : Int) < (x.after.length : Int) := by omega
              have HNx : Hid (nodeT x (k + 1) = nodeT x k ++ ((if k = 0 then [32, 97, 102, 116, 101, 114] else []) ++ ([32] ++ (x.after[k]).data.toList))) := nodeT_next hlt
              generalize x.after[k] = ak at *
              clear hsl hcell hne B
              by_cases h0 : k = 0
              · have e2 : ((k : Int) == 0) = true := by simp [h0]
                have HZ2 : Hid ((Z ++ ⟨#[32, 97, 102, 116, 101, 114]⟩ ++ ⟨#[32]⟩ ++ ak).data.toList = L ++ nodeT x (k + 1)) := by show _ = _; rw [HNx.out, if_pos h0, add_list, add_list, add_list, HZk.out]; simp
                clear h0 HNx HZk
                go_wp2_with fail
                go_roundw
                case rel => exact ⟨k + 1, _, by omega, by go_num, rfl, HZ2.out, HB.out⟩
                case measure => simp [intOf]; omega
              · have e2 : ((k : Int) == 0) = false := by simp; omega
                have HZ2 : Hid ((Z ++ ⟨#[32]⟩ ++ ak).data.toList = L ++ nodeT x (k + 1)) := by show _ = _; rw [HNx.out, if_neg h0, add_list, add_list, HZk.out]; simp
                clear h0 HNx HZk
                go_wp2_with fail
                go_roundw
                case rel => exact ⟨k + 1, _, by omega, by go_num, rfl, HZ2.out, HB.out⟩
                case measure => simp [intOf]; omega
            · have hke : k = x.after.length := by omega
              subst hke
              have e1 : ¬ (x.after.length : Int) < (x.after.length : Int) := by omega
              have HZ2 : Hid ((Z ++ ⟨#[10]⟩).data.toList = textL [32] (linesW name (ns.take (i + 1)))) := by show _ = _; rw [HX.out, add_list, HZk.out, nodeT_all]; simp
              clear HZk B
              go_wp2_with fail
              go_roundw
              case rel => exact ⟨i + 1, _, by omega, by go_num, rfl, HZ2.out, HKo.out.and HB.out.kept⟩
              case measure => simp [intOf]; omega
        · clear s5 s3
          have HZ : Hid ((Ls ++ x.name ++ ⟨#[32, 99, 104, 105, 108, 100, 32]⟩ ++ x.arg).data.toList = L ++ nodeT x 0) := by show _ = _; rw [← HLs.out]; exact tx3 Ls x k1
          have HK1 : Hid (x.kind = 3) := k1
          have q1 : (x.kind == 1) = false := by rw [k1]; rfl
          have q2 : (x.kind == 2) = false := by rw [k1]; rfl
          have q3 : (x.kind == 3) = true := by rw [k1]; rfl
          clear k1
          go_wp2_with (first | fail)
          have HB1 : Hid (NbSt wo _ x av cv) := B1
          clear B1 n0 n1 n2 n3 n4 n5 n6
          go_loopw [5, 8] (fun p q wq => ∃ (k : Nat) (Z : ByteArray), k ≤ x.after.length ∧ q = .int .i64 k ∧ p = .string Z ∧ Z.data.toList = L ++ nodeT x k ∧ NbSt wo wq x av cv) (fun _ q _ => x.after.length - (intOf q).toNat)
          case atStart => exact ⟨0, _, Nat.zero_le _, rfl, rfl, HZ.out, HB1.out⟩
          case round =>
            obtain ⟨k, Z, hk, rfl, rfl, hZ, B⟩ := hrel
            have hsz : Z.size ≤ 410280 := by have h1 := list_size hZ; rw [List.length_append] at h1; have h2 := HLn.out; have h3 := nodeT_len HR.out.1 HR.out.2 (x.after.length - k) k (by omega); omega
            obtain ⟨⟨n0, n1, n2, n3, n4, n5, n6⟩, _⟩ := seven B.blk
            have HZk : Hid (Z.data.toList = L ++ nodeT x k) := hZ
            have HB : Hid (NbSt wo wr x av cv) := B
            clear hZ HZ HB1
            by_cases hlt : k < x.after.length
            · obtain ⟨a2, c2, hsl, hc2, hne⟩ := (HTx.out.kept B.kept (fun _ _ h => h)).at
              obtain ⟨rfl, rfl⟩ : av = a2 ∧ cv = c2 := by simpa using hsl
              obtain ⟨xb, xo, rfl, hcell⟩ := hne (fun e => by rw [e] at hlt; simp at hlt)
              have hck := hcell k hlt
              have hxs : (x.after[k]).size ≤ 64 := name_small64 (HR.out.1.after _ (List.getElem_mem hlt))
              have e1 : (k : Int) < (x.after.length : Int) := by omega
              have HNx : Hid (nodeT x (k + 1) = nodeT x k ++ ((if k = 0 then [32, 97, 102, 116, 101, 114] else []) ++ ([32] ++ (x.after[k]).data.toList))) := nodeT_next hlt
              generalize x.after[k] = ak at *
              clear hsl hcell hne B
              by_cases h0 : k = 0
              · have e2 : ((k : Int) == 0) = true := by simp [h0]
                have HZ2 : Hid ((Z ++ ⟨#[32, 97, 102, 116, 101, 114]⟩ ++ ⟨#[32]⟩ ++ ak).data.toList = L ++ nodeT x (k + 1)) := by show _ = _; rw [HNx.out, if_pos h0, add_list, add_list, add_list, HZk.out]; simp
                clear h0 HNx HZk
                go_wp2_with fail
                go_roundw
                case rel => exact ⟨k + 1, _, by omega, by go_num, rfl, HZ2.out, HB.out⟩
                case measure => simp [intOf]; omega
              · have e2 : ((k : Int) == 0) = false := by simp; omega
                have HZ2 : Hid ((Z ++ ⟨#[32]⟩ ++ ak).data.toList = L ++ nodeT x (k + 1)) := by show _ = _; rw [HNx.out, if_neg h0, add_list, add_list, HZk.out]; simp
                clear h0 HNx HZk
                go_wp2_with fail
                go_roundw
                case rel => exact ⟨k + 1, _, by omega, by go_num, rfl, HZ2.out, HB.out⟩
                case measure => simp [intOf]; omega
            · have hke : k = x.after.length := by omega
              subst hke
              have e1 : ¬ (x.after.length : Int) < (x.after.length : Int) := by omega
              have HZ2 : Hid ((Z ++ ⟨#[10]⟩).data.toList = textL [32] (linesW name (ns.take (i + 1)))) := by show _ = _; rw [HX.out, add_list, HZk.out, nodeT_all]; simp
              clear HZk B
              go_wp2_with fail
              go_roundw
              case rel => exact ⟨i + 1, _, by omega, by go_num, rfl, HZ2.out, HKo.out.and HB.out.kept⟩
              case measure => simp [intOf]; omega
        · clear s5 s3
          have HZ : Hid ((Ls ++ x.name ++ ⟨#[32, 119, 97, 105, 116, 32]⟩ ++ x.arg).data.toList = L ++ nodeT x 0) := by show _ = _; rw [← HLs.out]; exact tx4 Ls x k1
          have HK1 : Hid (x.kind = 4) := k1
          have q1 : (x.kind == 1) = false := by rw [k1]; rfl
          have q2 : (x.kind == 2) = false := by rw [k1]; rfl
          have q3 : (x.kind == 3) = false := by rw [k1]; rfl
          have q4 : (x.kind == 4) = true := by rw [k1]; rfl
          clear k1
          go_wp2_with (first | fail)
          have HB1 : Hid (NbSt wo _ x av cv) := B1
          clear B1 n0 n1 n2 n3 n4 n5 n6
          go_loopw [5, 8] (fun p q wq => ∃ (k : Nat) (Z : ByteArray), k ≤ x.after.length ∧ q = .int .i64 k ∧ p = .string Z ∧ Z.data.toList = L ++ nodeT x k ∧ NbSt wo wq x av cv) (fun _ q _ => x.after.length - (intOf q).toNat)
          case atStart => exact ⟨0, _, Nat.zero_le _, rfl, rfl, HZ.out, HB1.out⟩
          case round =>
            obtain ⟨k, Z, hk, rfl, rfl, hZ, B⟩ := hrel
            have hsz : Z.size ≤ 410280 := by have h1 := list_size hZ; rw [List.length_append] at h1; have h2 := HLn.out; have h3 := nodeT_len HR.out.1 HR.out.2 (x.after.length - k) k (by omega); omega
            obtain ⟨⟨n0, n1, n2, n3, n4, n5, n6⟩, _⟩ := seven B.blk
            have HZk : Hid (Z.data.toList = L ++ nodeT x k) := hZ
            have HB : Hid (NbSt wo wr x av cv) := B
            clear hZ HZ HB1
            by_cases hlt : k < x.after.length
            · obtain ⟨a2, c2, hsl, hc2, hne⟩ := (HTx.out.kept B.kept (fun _ _ h => h)).at
              obtain ⟨rfl, rfl⟩ : av = a2 ∧ cv = c2 := by simpa using hsl
              obtain ⟨xb, xo, rfl, hcell⟩ := hne (fun e => by rw [e] at hlt; simp at hlt)
              have hck := hcell k hlt
              have hxs : (x.after[k]).size ≤ 64 := name_small64 (HR.out.1.after _ (List.getElem_mem hlt))
              have e1 : (k : Int) < (x.after.length : Int) := by omega
              have HNx : Hid (nodeT x (k + 1) = nodeT x k ++ ((if k = 0 then [32, 97, 102, 116, 101, 114] else []) ++ ([32] ++ (x.after[k]).data.toList))) := nodeT_next hlt
              generalize x.after[k] = ak at *
              clear hsl hcell hne B
              by_cases h0 : k = 0
              · have e2 : ((k : Int) == 0) = true := by simp [h0]
                have HZ2 : Hid ((Z ++ ⟨#[32, 97, 102, 116, 101, 114]⟩ ++ ⟨#[32]⟩ ++ ak).data.toList = L ++ nodeT x (k + 1)) := by show _ = _; rw [HNx.out, if_pos h0, add_list, add_list, add_list, HZk.out]; simp
                clear h0 HNx HZk
                go_wp2_with fail
                go_roundw
                case rel => exact ⟨k + 1, _, by omega, by go_num, rfl, HZ2.out, HB.out⟩
                case measure => simp [intOf]; omega
              · have e2 : ((k : Int) == 0) = false := by simp; omega
                have HZ2 : Hid ((Z ++ ⟨#[32]⟩ ++ ak).data.toList = L ++ nodeT x (k + 1)) := by show _ = _; rw [HNx.out, if_neg h0, add_list, add_list, HZk.out]; simp
                clear h0 HNx HZk
                go_wp2_with fail
                go_roundw
                case rel => exact ⟨k + 1, _, by omega, by go_num, rfl, HZ2.out, HB.out⟩
                case measure => simp [intOf]; omega
            · have hke : k = x.after.length := by omega
              subst hke
              have e1 : ¬ (x.after.length : Int) < (x.after.length : Int) := by omega
              have HZ2 : Hid ((Z ++ ⟨#[10]⟩).data.toList = textL [32] (linesW name (ns.take (i + 1)))) := by show _ = _; rw [HX.out, add_list, HZk.out, nodeT_all]; simp
              clear HZk B
              go_wp2_with fail
              go_roundw
              case rel => exact ⟨i + 1, _, by omega, by go_num, rfl, HZ2.out, HKo.out.and HB.out.kept⟩
              case measure => simp [intOf]; omega
        · have s4 := s3 k1
          clear s5 s3
          have HZ : Hid ((Ls ++ x.name ++ ⟨#[32, 115, 101, 110, 100, 32]⟩ ++ x.to ++ ⟨#[32]⟩ ++ x.arg).data.toList = L ++ nodeT x 0) := by show _ = _; rw [← HLs.out]; exact tx5 Ls x k1
          have HK1 : Hid (x.kind = 5) := k1
          have q1 : (x.kind == 1) = false := by rw [k1]; rfl
          have q2 : (x.kind == 2) = false := by rw [k1]; rfl
          have q3 : (x.kind == 3) = false := by rw [k1]; rfl
          have q4 : (x.kind == 4) = false := by rw [k1]; rfl
          clear k1
          go_wp2_with (first | fail)
          have HB1 : Hid (NbSt wo _ x av cv) := B1
          clear B1 n0 n1 n2 n3 n4 n5 n6
          go_loopw [5, 8] (fun p q wq => ∃ (k : Nat) (Z : ByteArray), k ≤ x.after.length ∧ q = .int .i64 k ∧ p = .string Z ∧ Z.data.toList = L ++ nodeT x k ∧ NbSt wo wq x av cv) (fun _ q _ => x.after.length - (intOf q).toNat)
          case atStart => exact ⟨0, _, Nat.zero_le _, rfl, rfl, HZ.out, HB1.out⟩
          case round =>
            obtain ⟨k, Z, hk, rfl, rfl, hZ, B⟩ := hrel
            have hsz : Z.size ≤ 410280 := by have h1 := list_size hZ; rw [List.length_append] at h1; have h2 := HLn.out; have h3 := nodeT_len HR.out.1 HR.out.2 (x.after.length - k) k (by omega); omega
            obtain ⟨⟨n0, n1, n2, n3, n4, n5, n6⟩, _⟩ := seven B.blk
            have HZk : Hid (Z.data.toList = L ++ nodeT x k) := hZ
            have HB : Hid (NbSt wo wr x av cv) := B
            clear hZ HZ HB1
            by_cases hlt : k < x.after.length
            · obtain ⟨a2, c2, hsl, hc2, hne⟩ := (HTx.out.kept B.kept (fun _ _ h => h)).at
              obtain ⟨rfl, rfl⟩ : av = a2 ∧ cv = c2 := by simpa using hsl
              obtain ⟨xb, xo, rfl, hcell⟩ := hne (fun e => by rw [e] at hlt; simp at hlt)
              have hck := hcell k hlt
              have hxs : (x.after[k]).size ≤ 64 := name_small64 (HR.out.1.after _ (List.getElem_mem hlt))
              have e1 : (k : Int) < (x.after.length : Int) := by omega
              have HNx : Hid (nodeT x (k + 1) = nodeT x k ++ ((if k = 0 then [32, 97, 102, 116, 101, 114] else []) ++ ([32] ++ (x.after[k]).data.toList))) := nodeT_next hlt
              generalize x.after[k] = ak at *
              clear hsl hcell hne B
              by_cases h0 : k = 0
              · have e2 : ((k : Int) == 0) = true := by simp [h0]
                have HZ2 : Hid ((Z ++ ⟨#[32, 97, 102, 116, 101, 114]⟩ ++ ⟨#[32]⟩ ++ ak).data.toList = L ++ nodeT x (k + 1)) := by show _ = _; rw [HNx.out, if_pos h0, add_list, add_list, add_list, HZk.out]; simp
                clear h0 HNx HZk
                go_wp2_with fail
                go_roundw
                case rel => exact ⟨k + 1, _, by omega, by go_num, rfl, HZ2.out, HB.out⟩
                case measure => simp [intOf]; omega
              · have e2 : ((k : Int) == 0) = false := by simp; omega
                have HZ2 : Hid ((Z ++ ⟨#[32]⟩ ++ ak).data.toList = L ++ nodeT x (k + 1)) := by show _ = _; rw [HNx.out, if_neg h0, add_list, add_list, HZk.out]; simp
                clear h0 HNx HZk
                go_wp2_with fail
                go_roundw
                case rel => exact ⟨k + 1, _, by omega, by go_num, rfl, HZ2.out, HB.out⟩
                case measure => simp [intOf]; omega
            · have hke : k = x.after.length := by omega
              subst hke
              have e1 : ¬ (x.after.length : Int) < (x.after.length : Int) := by omega
              have HZ2 : Hid ((Z ++ ⟨#[10]⟩).data.toList = textL [32] (linesW name (ns.take (i + 1)))) := by show _ = _; rw [HX.out, add_list, HZk.out, nodeT_all]; simp
              clear HZk B
              go_wp2_with fail
              go_roundw
              case rel => exact ⟨i + 1, _, by omega, by go_num, rfl, HZ2.out, HKo.out.and HB.out.kept⟩
              case measure => simp [intOf]; omega
      · have hie : i = ns.length := by omega
        subst hie
        have e0 : ¬ (ns.length : Int) < (ns.length : Int) := by omega
        have HE : Hid (Ls = textP name ns) := by
          show _ = _
          rw [HTP.out]
          rw [List.take_length] at hLs
          exact list_mkB hLs
        clear hLs
        go_wp2_with fail
        go_ret
        rw [← HE.out]
        exact ⟨rfl, Kw⟩
  · have e1 : ((checkP name ns).2 != 0) = true := by simp [hc]
    have HT : Hid (textP name ns = ⟨#[]⟩) := if_neg hc
    generalize (checkP name ns).2 = z at *
    generalize (checkP name ns).1 = y at *
    clear hc hN hf
    go_enter Tryz.func6, Tryz.ntmps6
    go_wp2_with (first
      | (go_at_call 15; refine hck.mono ?_; rintro e w1 ⟨rfl, K1⟩; clear hck)
      | fail)
    go_ret
    exact ⟨by rw [HT.out]; rfl, K0.and K1⟩

end Go.Proofs.YtlholgpenpfpbaaGreatDoor

/-
  A definition's text with remarks around it is read as the definition. Nothing here speaks of a program.
-/
namespace Go.Proofs.YtlholgpenpfpbaaGreatDoor
open Go.RowKit

def remB : ByteArray := ⟨#[35, 32, 114, 101, 109, 97, 114, 107, 10, 10, 32, 32]⟩
def endB : ByteArray := ⟨#[10, 35, 32, 101, 110, 100]⟩

theorem hash_silent (p : List UInt8) : rSilent (wordsP (mkB (35 :: p)), false) = true := by
  rw [wordsP_split]
  obtain ⟨w, r, e⟩ := splitW_first p 35 []
  rw [splitW, if_neg (by decide), List.nil_append, e, List.map_cons]
  unfold rSilent
  simp only [mkB_list, List.headD_cons]
  rfl

theorem nothing_silent : rSilent (wordsP (mkB []), false) = true := by rw [wordsP_split]; rfl

theorem back_parse {nm : ByteArray} {ns : List Nd} (hc : (checkP nm ns).2 = 0) (hsz : (remB ++ textP nm ns ++ endB).size ≤ 16384) : parseP (remB ++ textP nm ns ++ endB) = (some (nm, ns), 0, 0) := by
  refine says_parse hc hsz ?_
  have e : (textP nm ns).data.toList = textL [32] (linesW nm ns) := by unfold textP; rw [if_pos hc, mkB_list]
  have ok := lines_ok hc
  have hw := ok [wfB, nm] (by simp [linesW])
  have hX : ∀ X : List UInt8, remB.data.toList ++ X = [35, 32, 114, 101, 109, 97, 114, 107] ++ 10 :: ([] ++ 10 :: ([32, 32] ++ X)) := fun X => rfl
  have hE : endB.data.toList = [] ++ 10 :: [35, 32, 101, 110, 100] := rfl
  have hl := line_words (sep := [32]) (by simp) (by simp) hw [32, 32] (by simp)
  have hn : ∀ b ∈ [32, 32] ++ lineL [32] [wfB, nm], b ≠ (10 : UInt8) := by
    intro b hb
    rcases List.mem_append.1 hb with hb | hb
    · simp at hb; rw [hb]; decide
    · exact line_noNl (by simp) hw b hb
  have e2 : [32, 32] ++ (textL [32] (linesW nm ns) ++ endB.data.toList) = ([32, 32] ++ lineL [32] [wfB, nm]) ++ 10 :: (textL [32] (ns.map wordsW) ++ endB.data.toList) := by
    unfold linesW
    rw [textL_cons]
    simp
  have e3 : saysL (linesP (mkB endB.data.toList)) = [] := by
    rw [hE, linesP_line _ _ (by simp), saysL_silent nothing_silent, linesP_last _ (by decide) (by simp), saysL_silent (hash_silent _), saysL_nil]
  rw [← mkB_data (remB ++ textP nm ns ++ endB), add_list, add_list, e, List.append_assoc, hX, linesP_line _ _ (by decide), saysL_silent (hash_silent _), linesP_line _ _ (by simp), saysL_silent nothing_silent, e2, linesP_line _ _ hn, saysL_says (by rw [hl]; exact line_loud hw), hl, text_says (by simp) (by simp) _ _ (fun ws h => ok ws (by unfold linesW; simp [h])), e3, List.append_nil]
  rfl

end Go.Proofs.YtlholgpenpfpbaaGreatDoor

/-
  The law's own comparing: texts, nodes, definitions that are the same.
-/
namespace Go.Proofs.YtlholgpenpfpbaaGreatDoor
open Go.RowKit

set_option maxRecDepth 100000 in
set_option maxHeartbeats 2000000 in
theorem texts_same (w : World) (a1 a2 : Option Addr) (c1 c2 : Nat) (l : List ByteArray) (h1 : TextsAt w (.slice a1 l.length c1) l) (h2 : TextsAt w (.slice a2 l.length c2) l) (hl : l.length ≤ 1000000) :
    Calls Tryz.prog 40 #[.slice a1 l.length c1, .slice a2 l.length c2] w fun e w' => e = .returned (.bool true) ∧ Kept (fun _ => False) w w' := by
  have H1 : Hid (TextsAt w (.slice a1 l.length c1) l) := h1
  have H2 : Hid (TextsAt w (.slice a2 l.length c2) l) := h2
  clear h1 h2
  have e0 : ((l.length : Int) != (l.length : Int)) = false := by simp
  go_enter Tryz.func40, Tryz.ntmps40
  go_wp2_with fail
  go_loopw [5] (fun q wr => ∃ (k : Nat), k ≤ l.length ∧ q = .int .i64 k ∧ Kept (fun _ => False) w wr) (fun q _ => l.length - (intOf q).toNat)
  case atStart => exact ⟨0, Nat.zero_le _, rfl, Kept.refl _ _⟩
  case round =>
    obtain ⟨k, hk, rfl, K⟩ := hrel
    by_cases hlk : k < l.length
    · have e1 : (k : Int) < (l.length : Int) := by omega
      obtain ⟨b1, d1, s1, _, n1⟩ := (H1.out.kept K (fun _ _ h => h)).at
      obtain ⟨rfl, rfl⟩ : a1 = b1 ∧ c1 = d1 := by simpa using s1
      obtain ⟨b2, d2, s2, _, n2⟩ := (H2.out.kept K (fun _ _ h => h)).at
      obtain ⟨rfl, rfl⟩ : a2 = b2 ∧ c2 = d2 := by simpa using s2
      obtain ⟨xb, xo, rfl, hx⟩ := n1 (fun e => by rw [e] at hlk; simp at hlk)
      obtain ⟨yb, yo, rfl, hy⟩ := n2 (fun e => by rw [e] at hlk; simp at hlk)
      have x0 := hx k hlk
      have y0 := hy k hlk
      have w1 : IntKind.i64.wrap (k : Int) = (k : Int) := by rw [IntKind.wrap_i64]; omega
      have q0 : ((l[k]).toList != (l[k]).toList) = false := by simp
      clear s1 s2 n1 n2 hx hy
      generalize l[k] = s at *
      go_wp2_with (first | go_quiet (fail) | fail)
      go_roundw
      case rel => exact ⟨k + 1, by omega, by go_num, K.and (Kept.drewN _ _ _)⟩
      case measure => simp [intOf]; omega
    · obtain rfl : k = l.length := by omega
      have e1 : ¬ (l.length : Int) < (l.length : Int) := by omega
      go_wp2_with fail
      go_ret
      exact ⟨rfl, K⟩

set_option maxRecDepth 100000 in
set_option maxHeartbeats 2000000 in
theorem node_same (w : World) (n : Nd) (a1 a2 : Option Addr) (c1 c2 : Nat) (h1 : TextsAt w (.slice a1 n.after.length c1) n.after) (h2 : TextsAt w (.slice a2 n.after.length c2) n.after) (hl : n.after.length ≤ 1000000) :
    Calls Tryz.prog 21 #[.agg #[.string n.name, .int .i64 n.kind, .string n.arg, .string n.to, .int .i64 n.delay, .int .i64 n.tries, .slice a1 n.after.length c1], .agg #[.string n.name, .int .i64 n.kind, .string n.arg, .string n.to, .int .i64 n.delay, .int .i64 n.tries, .slice a2 n.after.length c2]] w fun e w' => e = .returned (.bool true) ∧ Kept (fun _ => False) w w' := by
  have K2 : Kept (fun _ => False) w ((w.alloc (.cells #[.string n.name, .int .i64 n.kind, .string n.arg, .string n.to, .int .i64 n.delay, .int .i64 n.tries, .slice a1 n.after.length c1] 35)).alloc (.cells #[.string n.name, .int .i64 n.kind, .string n.arg, .string n.to, .int .i64 n.delay, .int .i64 n.tries, .slice a2 n.after.length c2] 35)) := (Kept.alloc _ _ _).and (Kept.alloc _ _ _)
  have hT := texts_same _ a1 a2 c1 c2 n.after (h1.kept K2 (fun _ _ h => h)) (h2.kept K2 (fun _ _ h => h)) hl
  have HK2 : Hid _ := K2
  have q0 : (n.name.toList == n.name.toList) = true := by simp
  have q1 : (n.kind == n.kind) = true := by simp
  have q2 : (n.arg.toList == n.arg.toList) = true := by simp
  have q3 : (n.to.toList == n.to.toList) = true := by simp
  have q4 : (n.delay == n.delay) = true := by simp
  have q5 : (n.tries == n.tries) = true := by simp
  clear h1 h2 K2
  go_enter Tryz.func21, Tryz.ntmps21
  go_wp2_with (first
    | (go_at_call 40; refine hT.mono ?_; rintro e w5 ⟨rfl, K5⟩; clear hT)
    | fail)
  go_ret
  exact ⟨rfl, HK2.out.and K5⟩

set_option maxRecDepth 100000 in
set_option maxHeartbeats 4000000 in
theorem def_same (w : World) (name : ByteArray) (a1 a2 : Option Addr) (c1 c2 : Nat) (ns : List Nd) (h1 : NodesAt w a1 ns) (h2 : NodesAt w a2 ns) (hn : ns.length ≤ 1000000) :
    Calls Tryz.prog 9 #[.agg #[.string name, .slice a1 ns.length c1], .agg #[.string name, .slice a2 ns.length c2]] w fun e w' => e = .returned (.bool true) ∧ Kept (fun _ => False) w w' := by
  have H1 : Hid (NodesAt w a1 ns) := h1
  have H2 : Hid (NodesAt w a2 ns) := h2
  have q0 : (name.toList != name.toList) = false := by simp
  have q1 : ((ns.length : Int) != (ns.length : Int)) = false := by simp
  clear h1 h2
  go_enter Tryz.func9, Tryz.ntmps9
  go_wp2_with fail
  go_loopw [5] (fun q wr => ∃ (k : Nat), k ≤ ns.length ∧ q = .int .i64 k ∧ Kept (fun _ => False) ((w.alloc (.cells #[.string name, .slice a1 ns.length c1] 24)).alloc (.cells #[.string name, .slice a2 ns.length c2] 24)) wr) (fun q _ => ns.length - (intOf q).toNat)
  case atStart => exact ⟨0, Nat.zero_le _, rfl, Kept.refl _ _⟩
  case round =>
    obtain ⟨k, hk, rfl, K⟩ := hrel
    have Kw : Kept (fun _ => False) w wr := ((Kept.alloc (fun _ => False) _ _).and (Kept.alloc _ _ _)).and K
    have z1 : wr.cell? ⟨w.heap.size, 1, none⟩ = some (.slice a1 ns.length c1) := boxC ((Kept.alloc (fun _ => False) _ _).and K) (fun h => h) 1 _ rfl
    have z2 : wr.cell? ⟨w.heap.size + 1, 1, none⟩ = some (.slice a2 ns.length c2) := by
      have h := boxC K (fun h => h) 1 _ rfl
      rw [World.size_alloc] at h
      exact h
    by_cases hlk : k < ns.length
    · have e1 : (k : Int) < (ns.length : Int) := by omega
      obtain ⟨b1, o1, v1, d1, rfl, t1, x0, x1, x2, x3, x4, x5, x6⟩ := (keptNew Kw H1.out).at hlk
      obtain ⟨b2, o2, v2, d2, rfl, t2, y0, y1, y2, y3, y4, y5, y6⟩ := (keptNew Kw H2.out).at hlk
      have hfew := (H1.out.1 _ (List.getElem_mem hlk)).few
      have KD := Kept.drew (fun _ => False) wr
      have hN := node_same wr.drew ns[k] v1 v2 d1 d2 (t1.kept KD (fun _ _ h => h)) (t2.kept KD (fun _ _ h => h)) hfew
      have w1 : IntKind.i64.wrap (k : Int) = (k : Int) := by rw [IntKind.wrap_i64]; omega
      have HS : Hid (∀ V, Kept (fun _ => False) wr.drew V → Kept (fun _ => False) wr.drew V ∧ V.cell? ⟨w.heap.size, 1, none⟩ = some (.slice (some ⟨b1, o1, none⟩) ns.length c1) ∧ V.cell? ⟨w.heap.size + 1, 1, none⟩ = some (.slice (some ⟨b2, o2, none⟩) ns.length c2) ∧
          (V.cell? ⟨b1, o1 + k * 7, none⟩ = some (.string (ns[k]).name) ∧ V.cell? ⟨b1, o1 + k * 7 + 1, none⟩ = some (.int .i64 (ns[k]).kind) ∧ V.cell? ⟨b1, o1 + k * 7 + 2, none⟩ = some (.string (ns[k]).arg) ∧ V.cell? ⟨b1, o1 + k * 7 + 3, none⟩ = some (.string (ns[k]).to) ∧ V.cell? ⟨b1, o1 + k * 7 + 4, none⟩ = some (.int .i64 (ns[k]).delay) ∧ V.cell? ⟨b1, o1 + k * 7 + 5, none⟩ = some (.int .i64 (ns[k]).tries) ∧ V.cell? ⟨b1, o1 + k * 7 + 6, none⟩ = some (.slice v1 (ns[k]).after.length d1)) ∧
          (V.cell? ⟨b2, o2 + k * 7, none⟩ = some (.string (ns[k]).name) ∧ V.cell? ⟨b2, o2 + k * 7 + 1, none⟩ = some (.int .i64 (ns[k]).kind) ∧ V.cell? ⟨b2, o2 + k * 7 + 2, none⟩ = some (.string (ns[k]).arg) ∧ V.cell? ⟨b2, o2 + k * 7 + 3, none⟩ = some (.string (ns[k]).to) ∧ V.cell? ⟨b2, o2 + k * 7 + 4, none⟩ = some (.int .i64 (ns[k]).delay) ∧ V.cell? ⟨b2, o2 + k * 7 + 5, none⟩ = some (.int .i64 (ns[k]).tries) ∧ V.cell? ⟨b2, o2 + k * 7 + 6, none⟩ = some (.slice v2 (ns[k]).after.length d2))) := fun V KV =>
        have g : ∀ {ad : Addr} {u : Value}, wr.cell? ad = some u → V.cell? ad = some u := fun h => keepC (KD.and KV) h (fun _ _ h => h)
        ⟨KV, g z1, g z2, ⟨g x0, g x1, g x2, g x3, g x4, g x5, g x6⟩, ⟨g y0, g y1, g y2, g y3, g y4, g y5, g y6⟩⟩
      have HKD : Hid (Kept (fun _ => False) wr wr.drew) := KD
      clear t1 t2 KD x0 x1 x2 x3 x4 x5 x6 y0 y1 y2 y3 y4 y5 y6
      generalize ns[k] = n at *
      go_wp2_with fail
      refine wp_onlyN ?_
      (go_region_held (fun V => Kept (fun _ => False) wr.drew V ∧ V.cell? ⟨w.heap.size, 1, none⟩ = some (.slice (some ⟨b1, o1, none⟩) ns.length c1) ∧ V.cell? ⟨w.heap.size + 1, 1, none⟩ = some (.slice (some ⟨b2, o2, none⟩) ns.length c2) ∧
          (V.cell? ⟨b1, o1 + k * 7, none⟩ = some (.string n.name) ∧ V.cell? ⟨b1, o1 + k * 7 + 1, none⟩ = some (.int .i64 n.kind) ∧ V.cell? ⟨b1, o1 + k * 7 + 2, none⟩ = some (.string n.arg) ∧ V.cell? ⟨b1, o1 + k * 7 + 3, none⟩ = some (.string n.to) ∧ V.cell? ⟨b1, o1 + k * 7 + 4, none⟩ = some (.int .i64 n.delay) ∧ V.cell? ⟨b1, o1 + k * 7 + 5, none⟩ = some (.int .i64 n.tries) ∧ V.cell? ⟨b1, o1 + k * 7 + 6, none⟩ = some (.slice v1 n.after.length d1)) ∧
          (V.cell? ⟨b2, o2 + k * 7, none⟩ = some (.string n.name) ∧ V.cell? ⟨b2, o2 + k * 7 + 1, none⟩ = some (.int .i64 n.kind) ∧ V.cell? ⟨b2, o2 + k * 7 + 2, none⟩ = some (.string n.arg) ∧ V.cell? ⟨b2, o2 + k * 7 + 3, none⟩ = some (.string n.to) ∧ V.cell? ⟨b2, o2 + k * 7 + 4, none⟩ = some (.int .i64 n.delay) ∧ V.cell? ⟨b2, o2 + k * 7 + 5, none⟩ = some (.int .i64 n.tries) ∧ V.cell? ⟨b2, o2 + k * 7 + 6, none⟩ = some (.slice v2 n.after.length d2))) (first | exact HS.out _ (Kept.refl _ _) | exact HS.out _ (by assumption)) (first
        | (go_at_call 21; refine hN.mono ?_; rintro e w5 ⟨rfl, K5⟩)
        | fail))
      simp only [onlyN]
      rename_i hHeld
      clear hHeld HS hN z1 z2
      have K5' : Kept (fun _ => False) wr w5 := HKD.out.and K5
      clear K5
      go_wp2_with fail
      go_roundw
      case rel => exact ⟨k + 1, by omega, by go_num, K.and K5'⟩
      case measure => simp [intOf]; omega
    · obtain rfl : k = ns.length := by omega
      have e1 : ¬ (ns.length : Int) < (ns.length : Int) := by omega
      go_wp2_with fail
      go_ret
      exact ⟨rfl, Kw⟩

end Go.Proofs.YtlholgpenpfpbaaGreatDoor
