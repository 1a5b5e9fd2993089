/-
  RingParts holds for all hosts, points and numbers of shards: the law's call returns true and leaves its arguments as they were. No condition; the listed tables are tied to the program's text.
-/
import Derived.Test.YtnhmdeglaoilcaaDoorRCard
import Derived.Test.YtnhmdeglaoilcaaDoorRShards
namespace Go.Proofs.YtnhmdeglaoilcaaDoor
open Go.ChangeShapes Go.WideShapes Go.ChangeAt Go.RowKit

/-- How many of the hosts have shard j, of the first n. -/
def parts (l : List Sp) (n : Nat) (hs : List Int) (j : Nat) : Nat := if j < n then hs.countP (fun h => own l h j) else 0

theorem mem_shL {l : List Sp} {h : Int} {n j : Nat} : j ∈ shL l h n ↔ j < n ∧ own l h j = true := by
  unfold shL
  rw [List.mem_filter, List.mem_range]

theorem shL_nodup (l : List Sp) (h : Int) (n : Nat) : (shL l h n).Nodup := List.nodup_range.sublist List.filter_sublist

theorem parts_next (l : List Sp) (n : Nat) (hs : List Int) (i : Nat) (hi : i < hs.length) (j : Nat) : parts l n (hs.take (i + 1)) j = parts l n (hs.take i) j + (if j ∈ shL l hs[i] n then 1 else 0) := by
  have e : hs.take (i + 1) = hs.take i ++ [hs[i]] := by rw [List.take_add_one, List.getElem?_eq_getElem hi]; rfl
  unfold parts
  by_cases hj : j < n
  · rw [if_pos hj, if_pos hj, e, List.countP_append]
    congr 1
    cases ho : own l hs[i] j
    · rw [if_neg (fun hm => by rw [mem_shL, ho] at hm; cases hm.2)]; simp [ho]
    · rw [if_pos (mem_shL.2 ⟨hj, ho⟩)]; simp [ho]
  · rw [if_neg hj, if_neg hj, if_neg (fun hm => hj (mem_shL.1 hm).1)]

theorem parts_le (l : List Sp) (n : Nat) (hs : List Int) (j : Nat) : parts l n hs j ≤ hs.length := by
  unfold parts
  split
  · exact List.countP_le_length
  · omega

theorem parts_one {l : List Sp} {n m : Nat} {hs : List Int} (hR : Right hs) (hn : 1 ≤ m) (hp : l.Perm (allSpots hs m)) (hs' : l.Pairwise noLater) (hne : hs ≠ []) {j : Nat} (hj : j < n) : parts l n hs j = 1 := by
  obtain ⟨z, hz⟩ := List.exists_mem_of_ne_nil hs hne
  have hlm : (hostPt z.toNat 0, (z.toNat : Int)) ∈ l := hp.mem_iff.2 (mem_allSpots.2 ⟨z, hz, 0, hn, rfl⟩)
  have h0 : 0 < l.length := List.length_pos_of_mem hlm
  have hlt : l.countP (fun x => ahead x.1 (shardPt j)) % l.length < l.length := Nat.mod_lt _ h0
  have hx := isNext_at (shardPt j) l hs' h0 hlt
  have ha := hostAt_next hs' hx
  obtain ⟨y, hy, k, _, e⟩ := mem_allSpots.1 (hp.mem_iff.1 hx.1)
  have hyb := hR.1 y hy
  have e2 : (y.toNat : Int) = y := by omega
  rw [e] at ha
  simp only [e2] at ha
  unfold parts
  rw [if_pos hj]
  have : hs.countP (fun h => own l h j) = hs.count y := by
    unfold List.count
    apply List.countP_congr
    intro h _
    unfold own
    rw [ha]
    simp
    exact eq_comm
  rw [this]
  have h1 := List.nodup_iff_count.1 hR.2 y
  have h2 := List.one_le_count_iff.2 hy
  omega

/-- Sixteen counts in block tb. -/
def SeenAt (w : World) (tb : Nat) (f : Nat → Nat) : Prop := ∀ j, j < 16 → w.cell? ⟨tb, j, none⟩ = some (.int .i64 ((f j : Nat) : Int)) ∧ w.frozen? ⟨tb, j, none⟩ = false

theorem SeenAt.kept {w w' : World} {S : Nat → Prop} {tb : Nat} {f : Nat → Nat} (C : SeenAt w tb f) (K : Kept S w w') (h : ¬ S tb) : SeenAt w' tb f := fun j hj => by
  obtain ⟨c, z⟩ := C j hj
  have hb := K.block tb (World.block_lt_of_cell? w _ c) h
  exact ⟨(World.cell?_of_block hb).trans c, (World.frozen?_of_block hb).trans z⟩

theorem SeenAt.bump {w : World} {tb : Nat} {f g : Nat → Nat} (C : SeenAt w tb f) {b : Nat} (hg : ∀ j, g j = f j + (if j = b then 1 else 0)) : SeenAt (w.setCell ⟨tb, b, none⟩ (.int .i64 ((f b : Int) + 1))) tb g := fun j hj => by
  obtain ⟨c, z⟩ := C j hj
  refine ⟨?_, by rw [World.frozen?_setCell]; exact z⟩
  by_cases e : j = b
  · subst e
    rw [World.cell?_setCell_same' w ⟨tb, j, none⟩ _ (by rw [c]; rfl), hg j, if_pos rfl]
    rfl
  · rw [World.cell?_setCell_other _ _ _ _ (fun h => e (by cases h; rfl)), c, hg j, if_neg e]
    rfl

theorem seenNew (w : World) (T : TypeId) : SeenAt (w.alloc (.cells #[.int .i64 0, .int .i64 0, .int .i64 0, .int .i64 0, .int .i64 0, .int .i64 0, .int .i64 0, .int .i64 0, .int .i64 0, .int .i64 0, .int .i64 0, .int .i64 0, .int .i64 0, .int .i64 0, .int .i64 0, .int .i64 0] T)) w.heap.size (fun _ => 0) := by
  intro j hj
  have h := heap_alloc_new w (.cells #[.int .i64 0, .int .i64 0, .int .i64 0, .int .i64 0, .int .i64 0, .int .i64 0, .int .i64 0, .int .i64 0, .int .i64 0, .int .i64 0, .int .i64 0, .int .i64 0, .int .i64 0, .int .i64 0, .int .i64 0, .int .i64 0] T)
  constructor
  · unfold World.cell?
    rw [h]
    match j, hj with
    | 0, _ | 1, _ | 2, _ | 3, _ | 4, _ | 5, _ | 6, _ | 7, _ | 8, _ | 9, _ | 10, _ | 11, _ | 12, _ | 13, _ | 14, _ | 15, _ => rfl
    | j + 16, h => omega
  · unfold World.frozen?
    rw [h]
    rfl

/-- The counts within a host's shards. -/
def inner (l : List Sp) (n : Nat) (hs : List Int) (S : List Nat) (k j : Nat) : Nat := parts l n hs j + (if j ∈ S.take k then 1 else 0)

theorem inner_next {l : List Sp} {n : Nat} {hs : List Int} {S : List Nat} (hS : S.Nodup) {k : Nat} (hk : k < S.length) (j : Nat) : inner l n hs S (k + 1) j = inner l n hs S k j + (if j = S[k] then 1 else 0) := by
  have e : S.take (k + 1) = S.take k ++ [S[k]] := by rw [List.take_add_one, List.getElem?_eq_getElem hk]; rfl
  have hm : (j ∈ S.take (k + 1)) ↔ (j ∈ S.take k ∨ j = S[k]) := by rw [e, List.mem_append, List.mem_singleton]
  have hn : S[k] ∉ S.take k := fun h => by
    have h2 : (S.take (k + 1)).Nodup := hS.sublist (List.take_sublist _ _)
    rw [e, List.nodup_append] at h2
    exact h2.2.2 _ h _ (List.mem_singleton.2 rfl) rfl
  unfold inner
  by_cases h1 : j = S[k]
  · have h2 : j ∉ S.take k := fun h => hn (h1 ▸ h)
    rw [if_pos (hm.2 (.inr h1)), if_neg h2, if_pos h1]
  · by_cases h2 : j ∈ S.take k
    · rw [if_pos (hm.2 (.inl h2)), if_pos h2, if_neg h1]
    · rw [if_neg (fun h => (hm.1 h).elim h2 h1), if_neg h2, if_neg h1]

theorem inner_le (l : List Sp) (n : Nat) (hs : List Int) (S : List Nat) (k j : Nat) : inner l n hs S k j ≤ hs.length + 1 := by
  have := parts_le l n hs j
  unfold inner
  split <;> omega

set_option maxRecDepth 100000 in
set_option maxHeartbeats 4000000 in
theorem ringParts_walk (a : Option Addr) (m c : Nat) (zs : List Int) (points shards : Int) (w : World) (B : IntsAt w a m c zs) :
    Calls Tryd.prog 6 #[.slice a m c, .int .i64 points, .int .i64 shards] w fun e w' => e = .returned (.bool true) ∧ Below w.heap.size w w' := by
  have hW := fun V => wakes_any V
  have hH := hosts_any w a m c zs B
  have WS := fun V => within_nat V shards 17 (by decide) (by decide)
  have WP := fun V => within_nat V points 64 (by decide) (by decide)
  go_enter Tryd.func6, Tryd.ntmps6
  go_wp2_with (first
    | (go_at_call 28; refine hH.mono ?_; rintro e w1 ⟨a1, c1, hs, rfl, ho, hR, hl12, K1⟩; clear hH)
    | (go_at_call 27; have _t := WS w; refine (WS _).mono ?_; rintro e w2 ⟨n, hn17, rfl, hw2⟩; subst w2; clear WS _t)
    | (go_at_call 27; refine (WP _).mono ?_; rintro e w2 ⟨n', hn64, rfl, hw2⟩; subst w2; have N1 := new_any w1 _ _ _ _ (intsOfRow ho) (1 + (n' : Int)); clear WP)
    | (go_at_call 17; refine N1.mono ?_; rintro e w3 ⟨K3, (⟨hw, _⟩ | ⟨_, rb, l, rfl, hp, hsl, R⟩)⟩; (exact absurd ⟨hR, (by omega), (by omega)⟩ hw); clear N1)
    | fail)
  have hpn : (1 + (n' : Int)).toNat = n' + 1 := by omega
  rw [hpn] at hp
  have I3 := (intsOfRow ho).kept K3 (fun _ _ _ h => h)
  have HP : Hid (l.Perm (allSpots hs (n' + 1))) := hp
  have HRg : Hid (RingAt w3 rb l) := R
  have KA := Kept.alloc (fun _ => False) w3 (.cells #[.int .i64 0, .int .i64 0, .int .i64 0, .int .i64 0, .int .i64 0, .int .i64 0, .int .i64 0, .int .i64 0, .int .i64 0, .int .i64 0, .int .i64 0, .int .i64 0, .int .i64 0, .int .i64 0, .int .i64 0, .int .i64 0] 64)
  clear hp R hpn
  go_loopw [12] (fun v wr => ∃ (i : Nat), i ≤ hs.length ∧ v = .int .i64 i ∧ SeenAt wr w3.heap.size (parts l n (hs.take i)) ∧ Kept (fun k => w3.heap.size ≤ k) w3 wr) (fun v _ => hs.length - (intOf v).toNat)
  case atStart =>
    refine ⟨0, Nat.zero_le _, rfl, ?_, KA.mono (fun _ h => h.elim)⟩
    have e : parts l n (hs.take 0) = fun _ => 0 := by funext j; unfold parts; simp
    rw [e]
    exact seenNew w3 _
  case round =>
    obtain ⟨i, hi, rfl, C, K4⟩ := hrel
    have KF : Kept (fun _ => False) w3 wr := (Kept.refl (fun _ => False) w3).trans K4 (fun _ h => .inr h)
    by_cases hlt : i < hs.length
    · have e0 : (i : Int) < (hs.length : Int) := by omega
      obtain ⟨b1, o1, rfl, hc1⟩ := (I3.kept KF (fun _ _ _ h => h)).at hlt
      have x1 := hc1 i hlt
      have SH := shards_any wr rb l (HRg.out.kept KF) hsl hs[i] n (by omega)
      have HNX : Hid (∀ j, parts l n (hs.take (i + 1)) j = parts l n (hs.take i) j + (if j ∈ shL l hs[i] n then 1 else 0)) := parts_next l n hs i hlt
      have hnd := shL_nodup l hs[i] n
      have hmem : ∀ j ∈ shL l hs[i] n, j < n := fun j hj => (mem_shL.1 hj).1
      have htk : (hs.take i).length ≤ 12 := by rw [List.length_take]; omega
      have hSl := shL_len l hs[i] n
      generalize hs[i] = h at *
      generalize shL l h n = S at *
      have HND : Hid S.Nodup := hnd
      have HME : Hid (∀ j ∈ S, j < n) := hmem
      have htb : w3.heap.size < wr.heap.size := World.block_lt_of_cell? wr _ (C 0 (by decide)).1
      clear hc1 hW hnd hmem
      go_wp2_with (first
        | (go_at_call 24; refine SH.mono ?_; rintro e w5 ⟨a5, c5, rfl, ho5, K5⟩; clear SH)
        | fail)
      have I5 := intsOfRow (l := S.map (fun j : Nat => (j : Int))) (by rw [← nats_ints]; exact ho5)
      have C5 := C.kept K5 (fun h => h)
      have hb5 : ∀ g, a5 = some g → g.block ≠ w3.heap.size := fun g e => by
        have := (ho5.lt g.block (by rw [e]; rfl)).1
        omega
      go_loopw [14] (fun v wr' => ∃ (k : Nat), k ≤ S.length ∧ v = .int .i64 k ∧ SeenAt wr' w3.heap.size (inner l n (hs.take i) S k) ∧ Kept (fun k => k = w3.heap.size) w5 wr') (fun v _ => S.length - (intOf v).toNat)
      case atStart =>
        refine ⟨0, Nat.zero_le _, rfl, ?_, Kept.refl _ _⟩
        have e : inner l n (hs.take i) S 0 = parts l n (hs.take i) := by funext j; unfold inner; simp
        rw [e]
        exact C5
      case round =>
        obtain ⟨k, hk, rfl, C6, K6⟩ := hrel
        by_cases hkl : k < S.length
        · have e1 : (k : Int) < (S.length : Int) := by omega
          obtain ⟨b5, o5, rfl, hc5⟩ := (I5.kept K6 (fun _ ad e h => hb5 ad e h)).at (j := k) (by simpa using hkl)
          have x5 := hc5 k (by simpa using hkl)
          rw [List.getElem_map] at x5
          have hsn := HME.out _ (List.getElem_mem hkl)
          obtain ⟨y1, y2⟩ := C6 S[k] (by omega)
          have hle := inner_le l n (hs.take i) S k S[k]
          have HB := C6.bump (b := S[k]) (g := inner l n (hs.take i) S (k + 1)) (inner_next HND.out hkl)
          have HBH : Hid _ := HB
          generalize S[k] = s at *
          generalize inner l n (hs.take i) S k s = f at *
          have g1 : (s : Int) < (n : Int) := by omega
          have g2 : (0 : Int) ≤ (s : Int) := by omega
          have g3 : ¬ (s : Int) < 0 := by omega
          have g4 : (s : Int) < 16 := by omega
          clear hc5 HB
          go_wp2
          go_roundw
          case rel => exact ⟨k + 1, by omega, by go_num, HBH.out, K6.and (Kept.setCell _ _ _ rfl)⟩
          case measure => simp [intOf]; omega
        · have e1 : ¬ (k : Int) < (S.length : Int) := by omega
          have hkS : S.take k = S := List.take_of_length_le (by omega)
          have e : inner l n (hs.take i) S k = parts l n (hs.take (i + 1)) := by
            funext j
            unfold inner
            rw [hkS, HNX.out j]
          rw [e] at C6
          clear e hkS
          go_wp2
          go_roundw
          case rel => exact ⟨i + 1, by omega, by go_num, C6, (K4.trans K5 (fun _ h => h.elim)).trans K6 (fun i hi => .inl (by have hi' : i = w3.heap.size := hi; show w3.heap.size ≤ i; omega))⟩
          case measure => simp [intOf]; omega
    · have e0 : ¬ (i : Int) < (hs.length : Int) := by omega
      have hiS : hs.take i = hs := List.take_of_length_le (by omega)
      rw [hiS] at C
      clear hiS
      go_wp2
      go_loopw [15] (fun v wr' => ∃ (j : Nat), j ≤ n ∧ v = .int .i64 j ∧ wr' = wr) (fun v _ => n - (intOf v).toNat)
      case atStart => exact ⟨0, Nat.zero_le _, rfl, rfl⟩
      case round =>
        obtain ⟨j, hj, rfl, hwr⟩ := hrel
        subst hwr
        by_cases hjn : j < n
        · have e1 : (j : Int) < (n : Int) := by omega
          have e2 : (j : Int) < 16 := by omega
          have e3 : (0 : Int) ≤ (j : Int) := by omega
          obtain ⟨y1, _⟩ := C j (by omega)
          by_cases hne : hs = []
          · have hp0 : parts l n hs j = 0 := by rw [hne]; unfold parts; simp
            rw [hp0] at y1
            have e4 : hs.length = 0 := by rw [hne]; rfl
            have e5 : ¬ (0 : Int) < (hs.length : Int) := by omega
            clear hne hp0
            go_wp2
            go_roundw
            case rel => exact ⟨j + 1, by omega, by go_num, trivial⟩
            case measure => simp [intOf]; omega
          · have hp1 : parts l n hs j = 1 := parts_one hR (Nat.le_add_left 1 n') HP.out hsl hne hjn
            rw [hp1] at y1
            have e4 : 0 < hs.length := List.length_pos_iff.2 hne
            have e5 : (0 : Int) < (hs.length : Int) := by omega
            have e6 : ((hs.length : Int) == 0) = false := by simp; omega
            clear hne hp1
            go_wp2
            go_roundw
            case rel => exact ⟨j + 1, by omega, by go_num, trivial⟩
            case measure => simp [intOf]; omega
        · have e1 : ¬ (j : Int) < (n : Int) := by omega
          go_wp2_with (first
            | (go_at_call 16; refine (hW _).mono ?_; rintro e w6 ⟨rfl, K6⟩)
            | fail)
          go_ret
          exact ⟨rfl, (((K1.and K3).and KF).and K6).none⟩

set_option maxRecDepth 100000 in
theorem ringParts_lifted (os : Os) (started : os.Started) (H : Type) (enc : TypeId × Value → H) :
    ReturnsInHanded {} Tryd.checked os 6 .any (fun w args => (Rows.ringPartsSpec.pre enc Tryd.prog Tryd.f6 [] false w args ∧ laidMetH Tryd.prog laidL w) ∧ sizedMet enc Tryd.prog Tryd.f6 (OpenSpec.ofChange Rows.ringPartsSpec) false w args)
      (Rows.ringPartsSpec.post enc Tryd.prog Tryd.f6 false true false false) := by
  refine returnsInHanded_of_change_and (C := Tryd.checked) (X := fun w _ => laidMetH Tryd.prog laidL w) (fun _ _ _ hh h => h.of_heap hh) Tryd.own started (by kernel_rfl) Tryd.func6
    (ChangeSpec.witness_shaped (enc := enc) (C := Tryd.checked) (os := os) (X := fun w _ => laidMetH Tryd.prog laidL w) false (World.doorLaid Tryd.prog 24 os) #[.slice none 0 0, .int .i64 0, .int .i64 0] 8 rfl (World.shaped_of_RefB (by kernel_rfl) (by kernel_rfl)) (by kernel_rfl) (by kernel_rfl) (by kernel_rfl) (door_met os _)) ?_
  intro W base args ds gs before hval0 hW _ _ hL _
  have hval : ∀ (j : Nat) t v, Tryd.f6.params[j]? = some t → args[j]? = some v → Value.okWide Tryd.prog W .any base t v := hval0
  have hW' := hW
  obtain ⟨p, q, hA0, hV, rfl, _, _⟩ := hW
  have hA : DataW.TrodAll enc Tryd.prog W 0 (fun _ => true) true Tryd.f6.params.toList args.toList ds p := hA0
  rw [Tryd.params6] at hA hval
  obtain ⟨v0, vs0, d0, ds0, p0, q0, hargs, rfl, rfl, h0, r0⟩ := trodAll_cons hA
  obtain ⟨v1, vs1, d1, ds1, p1, q1, rfl, rfl, rfl, h1, r1⟩ := trodAll_cons r0
  obtain ⟨v2, vs2, d2, ds2, p2, q2, rfl, rfl, rfl, h2, r2⟩ := trodAll_cons r1
  obtain ⟨rfl, rfl, rfl⟩ := trodAll_nil r2
  obtain rfl : args = #[v0, v1, v2] := by cases args; simp_all
  obtain ⟨rfl, rfl⟩ := trodVars_none hV
  have k0 := h0
  have k1 := h1
  have k2 := h2
  have lt0 : ∀ x ∈ p0, x.block < W.heap.size := by obtain ⟨m, hm⟩ := k0; exact DataW.trod_lt m _ _ _ hm
  have lt1 : ∀ x ∈ p1, x.block < W.heap.size := by obtain ⟨m, hm⟩ := k1; exact DataW.trod_lt m _ _ _ hm
  have lt2 : ∀ x ∈ p2, x.block < W.heap.size := by obtain ⟨m, hm⟩ := k2; exact DataW.trod_lt m _ _ _ hm
  obtain ⟨a0', len0', cap0', rfl⟩ := okWide_slice Tryd.underlying36 (hval 0 36 v0 rfl rfl)
  obtain ⟨a0, len0, cap0, z0, e0, w0⟩ : ∃ a len cap zs, Value.slice a0' len0' cap0' = .slice a len cap ∧ IntsAt W a len cap zs := by
    obtain ⟨fuel, hf⟩ := h0
    exact ints_open Tryd.underlying36 Tryd.underlying3 (by kernel_rfl) hf
  simp only [Value.slice.injEq] at e0
  obtain ⟨rfl, rfl, rfl⟩ := e0
  obtain ⟨n1, rfl, _, _, x1⟩ := open_int Tryd.underlying3 (hval 1 3 v1 rfl rfl) h1
  obtain ⟨n2, rfl, _, _, x2⟩ := open_int Tryd.underlying3 (hval 2 3 v2 rfl rfl) h2
  clear hA0 hval0
  refine (ringParts_walk _ _ _ _ _ _ W w0).mono fun e W' ⟨he, bel⟩ => ?_
  subst he
  exact ⟨_, rfl, _, _, _, [], _, [], hW', trodAll_mk1 (shut_bool Tryd.underlying4 _), (trodAll_cons_mk (Below.trod Tryd.laidOut (by kernel_rfl) (of_decide_eq_true (by kernel_rfl)) k0 bel lt0) (trodAll_cons_mk (Below.trod Tryd.laidOut (by kernel_rfl) (of_decide_eq_true (by kernel_rfl)) k1 bel lt1) (trodAll_cons_mk (Below.trod Tryd.laidOut (by kernel_rfl) (of_decide_eq_true (by kernel_rfl)) k2 bel lt2) trodAll_mk0))), rfl, bel.frame _, fun h => by cases h⟩

theorem ringParts_row : Rows.RingPartsSaid :=
  OpenClaim.holds_of_wide 6 Tryd.f6 rfl rfl rfl rfl rfl rfl rfl ⟨rfl, rfl, rfl, rfl, rfl⟩ rfl rfl rfl rfl rfl (by kernel_rfl) Tryd.func6 (by kernel_rfl)
    (of_decide_eq_true (by kernel_rfl)) (by unfold Func.isWrapper; first | (rw [if_pos (by decide +kernel)]; kernel_rfl) | (rw [if_neg (by decide +kernel)]; exact ⟨rfl, rfl⟩))
    (fun os started H enc _ => ringParts_lifted os started H enc)

theorem ringParts_holds : Rows.RingPartsCardSaid :=
  Claim7.holds_tied_plain_at .later [] [.data, .data, .data] true Rows.ringPartsCard.stood.harness false
    ringParts_row (fun _ h => by cases h) (by kernel_rfl) (fun _ h => by cases h) ringParts_row_tie rfl ⟨rfl, rfl⟩ (by kernel_rfl) rfl
    (fun f fn hf hfn => by
      obtain rfl : f = 6 := Option.some.inj ((show Tryd.prog.funcNamed "tiller/tillerlaw06.RingParts" = some 6 by kernel_rfl).symm.trans hf) |>.symm
      obtain rfl : fn = Tryd.f6 := (Option.some.inj (Tryd.func6.symm.trans hfn)).symm
      exact ⟨by kernel_rfl, fun j t ht => by
        rw [Tryd.params6] at ht
        have hm : t ∈ [36, 3] := by simpa using Array.mem_of_getElem? ht
        have hall : ([36, 3].all fun u => !Tryd.prog.wantsStandIn u) = true := by kernel_rfl
        exact (show Tryd.prog.wantsStandIn t = false by simpa using List.all_eq_true.1 hall t hm)⟩)
    (by kernel_rfl)

end Go.Proofs.YtnhmdeglaoilcaaDoor
