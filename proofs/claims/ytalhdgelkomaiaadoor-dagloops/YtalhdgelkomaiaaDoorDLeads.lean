/-
  The law's among and leads: is a name among some; does a node lead to another one?
-/
import Derived.Test.YtalhdgelkomaiaaDoorDLevP
import Derived.Test.YtalhdgelkomaiaaDoorDRefFind
import Derived.Test.YtalhdgelkomaiaaDoorDLines3
import Derived.Deep.RegionHeld3
namespace Go.Proofs.YtalhdgelkomaiaaDoor
open Go.RowKit

theorem Tryd.info4 : (Tryd.prog.info? 4).map (fun i => (i.zero, i.size, i.bytes)) = some (some (.bool false), 1, 1) := by kernel_rfl

def amongB (l : List ByteArray) (s : ByteArray) : Bool := l.any (fun t => decide (t = s))
theorem amongB_iff {l : List ByteArray} {s : ByteArray} : amongB l s = true ↔ s ∈ l := by
  unfold amongB
  rw [List.any_eq_true]
  exact ⟨fun ⟨t, h, e⟩ => (of_decide_eq_true e) ▸ h, fun h => ⟨s, h, by simp⟩⟩
theorem amongB_not {l : List ByteArray} {s : ByteArray} (h : s ∉ l) : amongB l s = false := by
  cases hb : amongB l s with
  | false => rfl
  | true => exact absurd (amongB_iff.1 hb) h

set_option maxRecDepth 100000 in
set_option maxHeartbeats 1000000 in
theorem among_any (w : World) (a : Option Addr) (c : Nat) (l : List ByteArray) (hT : TextsAt w (.slice a l.length c) l) (hl : l.length ≤ 1000000) (s : ByteArray) :
    Calls Tryd.prog 20 #[.slice a l.length c, .string s] w fun e w' => e = .returned (.bool (amongB l s)) ∧ w' = w := by
  have htx := hT
  obtain ⟨a2, c2, hsl, hc2, hne⟩ := htx.at
  obtain ⟨rfl, rfl⟩ : a = a2 ∧ c = c2 := by simpa using hsl
  have HNE : Hid _ := hne
  clear hne htx hT hsl
  go_enter Tryd.func20, Tryd.ntmps20
  go_wp2
  go_loopw [5] (fun q wr => ∃ (k : Nat), k ≤ l.length ∧ q = .int .i64 k ∧ wr = w ∧ s ∉ l.take k) (fun q _ => l.length - (intOf q).toNat)
  case atStart => exact ⟨0, Nat.zero_le _, rfl, rfl, by simp⟩
  case round =>
    obtain ⟨k, hk, rfl, hw, hm⟩ := hrel
    subst hw
    by_cases hlk : k < l.length
    · obtain ⟨xb, xo, rfl, hcell⟩ := HNE.out (fun e => by rw [e] at hlk; simp at hlk)
      have hck := hcell k hlk
      have e1 : (k : Int) < (l.length : Int) := by omega
      have hse := str_eq l[k] s
      have HM : Hid (s ∉ l.take (k + 1) ∨ l[k] = s) := by
        by_cases e : l[k] = s
        · exact .inr e
        · left
          rw [List.take_add_one, List.getElem?_eq_getElem hlk, Option.toList_some]
          intro h
          rcases List.mem_append.1 h with h | h
          · exact hm h
          · simp at h; exact e h.symm
      have HI : Hid (l[k] = s → s ∈ l) := fun e => e ▸ List.getElem_mem hlk
      clear hcell hm
      by_cases he : l[k] = s
      · have hin := HI.out he
        rw [he] at hse hck
        simp only [decide_true] at hse
        have hd : amongB l s = true := amongB_iff.2 hin
        clear hin HI HM he
        go_wp2
        go_ret
        exact ⟨by rw [hd]; rfl, rfl⟩
      · simp only [he, decide_false] at hse
        have hnx : s ∉ l.take (k + 1) := by rcases HM.out with h | h; exact h; exact absurd h he
        have HX : Hid (s ∉ l.take (k + 1)) := hnx
        clear HI HM he hnx
        generalize l[k] = t at *
        go_wp2
        go_roundw
        case rel => exact ⟨k + 1, by omega, by go_num, trivial, HX.out⟩
        case measure => simp [intOf]; omega
    · obtain rfl : k = l.length := by omega
      rw [List.take_length] at hm
      have hd : amongB l s = false := amongB_not hm
      clear hm
      go_wp2
      go_ret
      exact ⟨by rw [hd]; rfl, rfl⟩

/-- What was made is written over. -/
theorem alloc_set (w : World) (cs : Array Value) (T : TypeId) (i : Nat) (v : Value) : (w.alloc (.cells cs T)).setCell ⟨w.heap.size, i, none⟩ v = w.alloc (.cells (cs.setIfInBounds i v) T) := by
  unfold World.setCell World.alloc
  simp only [World.mk.injEq, and_true]
  apply Array.ext_getElem?
  intro j
  rw [Array.getElem?_modify]
  by_cases e : w.heap.size = j
  · subst e; simp
  · rw [if_neg e, Array.getElem?_push, Array.getElem?_push]
    have : ¬ j = w.heap.size := fun h => e h.symm
    simp [this]

/-- The marks, step by step. -/
def markJ (ns : List Nd) (seen : Nat → Bool) (s : ByteArray) : Nat → Bool := match findP ns s with | some j => fun x => if x = j then true else seen x | none => seen
def nodeS (ns : List Nd) (seen : Nat → Bool) (i : Nat) : Nat → Bool := match ns[i]? with | some n => if seen i then n.after.foldl (markJ ns) seen else seen | none => seen
def rowS (ns : List Nd) (seen : Nat → Bool) (i : Nat) : Nat → Bool := (List.range i).foldl (nodeS ns) seen
def seenK (ns : List Nd) (b : Nat) : Nat → (Nat → Bool)
  | 0 => fun x => decide (x = b)
  | k + 1 => rowS ns (seenK ns b k) ns.length
/-- Does b lead to p by the marks? -/
def leadP (ns : List Nd) (b p : Nat) : Bool := seenK ns b ns.length p

theorem markJ_keep {ns : List Nd} {seen : Nat → Bool} {s : ByteArray} {x : Nat} (h : seen x = true) : markJ ns seen s x = true := by
  unfold markJ
  cases findP ns s with
  | none => exact h
  | some j => simp only []; split <;> first | rfl | exact h

theorem markL_keep {ns : List Nd} {x : Nat} : ∀ (l : List ByteArray) {seen : Nat → Bool}, seen x = true → l.foldl (markJ ns) seen x = true
  | [], _, h => h
  | s :: l, seen, h => markL_keep l (seen := markJ ns seen s) (markJ_keep h)

theorem markL_path {ns : List Nd} {b i : Nat} {n : Nd} (hn : ns[i]? = some n) (hp : Path ns b i) : ∀ (l : List ByteArray) {seen : Nat → Bool}, (∀ s ∈ l, s ∈ n.after) → (∀ x, seen x = true → Path ns b x) → ∀ x, l.foldl (markJ ns) seen x = true → Path ns b x
  | [], _, _, h => h
  | s :: l, _, hl, h => by
    refine markL_path hn hp l (fun t ht => hl t (List.mem_cons_of_mem _ ht)) (fun x hx => ?_)
    unfold markJ at hx
    cases hf : findP ns s with
    | none => rw [hf] at hx; exact h x hx
    | some j =>
      rw [hf] at hx
      simp only [] at hx
      by_cases e : x = j
      · subst e; exact Path.step hp hn (hl s (List.mem_cons_self ..)) hf
      · rw [if_neg e] at hx; exact h x hx

theorem nodeS_path {ns : List Nd} {b : Nat} {seen : Nat → Bool} (h : ∀ x, seen x = true → Path ns b x) (i : Nat) : ∀ x, nodeS ns seen i x = true → Path ns b x := by
  unfold nodeS
  cases hn : ns[i]? with
  | none => exact h
  | some n =>
    simp only []
    cases hs : seen i with
    | false => exact h
    | true => exact markL_path hn (h i hs) n.after (fun s hs => hs) h

theorem rowS_path {ns : List Nd} {b : Nat} : ∀ (l : List Nat) {seen : Nat → Bool}, (∀ x, seen x = true → Path ns b x) → ∀ x, l.foldl (nodeS ns) seen x = true → Path ns b x
  | [], _, h => h
  | i :: l, _, h => rowS_path l (nodeS_path h i)

theorem seenK_path (ns : List Nd) (b : Nat) : ∀ k x, seenK ns b k x = true → Path ns b x
  | 0, x, h => by
    have : x = b := of_decide_eq_true h
    subst this
    exact Path.refl
  | k + 1, x, h => rowS_path _ (seenK_path ns b k) x h

theorem leadP_path {ns : List Nd} {b p : Nat} (h : leadP ns b p = true) : Path ns b p := seenK_path ns b _ p h

theorem rowS_next (ns : List Nd) (seen : Nat → Bool) (i : Nat) : rowS ns seen (i + 1) = nodeS ns (rowS ns seen i) i := by
  unfold rowS
  rw [List.range_succ, List.foldl_append]
  rfl

theorem mark_next {ns : List Nd} {seen : Nat → Bool} {l : List ByteArray} {m : Nat} (hm : m < l.length) : (l.take (m + 1)).foldl (markJ ns) seen = markJ ns ((l.take m).foldl (markJ ns) seen) l[m] := by
  rw [List.take_add_one, List.getElem?_eq_getElem hm, Option.toList_some, List.foldl_append]
  rfl

/-- What stands between the rounds: the marks. -/
def SeenSt (w : World) (ns : List Nd) (wr : World) (name : ByteArray) (a : Option Addr) (c : Nat) (seen : Nat → Bool) : Prop := wr.rowIs (w.heap.size + 1) 4 ns.length (fun x => .bool (seen x)) ∧ Kept (fun j => j = w.heap.size + 1) w wr ∧ wr.heap[w.heap.size]? = some (.cells #[.string name, .slice a ns.length c] 26 (0, 0))

theorem SeenSt.box {w wr : World} {ns : List Nd} {c : Nat} {name : ByteArray} {a : Option Addr} {seen : Nat → Bool} (S : SeenSt w ns wr name a c seen) : wr.heap[w.heap.size]? = some (.cells #[.string name, .slice a ns.length c] 26 (0, 0)) := S.2.2

set_option maxRecDepth 100000 in
set_option maxHeartbeats 8000000 in
theorem leads_any (w : World) (name : ByteArray) (a : Option Addr) (c : Nat) (ns : List Nd) (hN : NodesAt w a ns) (hn : ns.length ≤ 1000000) (p b : Nat) (hp : p < ns.length) (hb : b < ns.length) :
    Calls Tryd.prog 19 #[.agg #[.string name, .slice a ns.length c], .int .i64 p, .int .i64 b] w fun e w' => e = .returned (.bool (leadP ns b p)) ∧ Kept (fun _ => False) w w' := by
  have hm1 := fun W => run_make_row' (P := Tryd.prog) 38 4 (.bool false) 1 Tryd.underlying38 Tryd.info4 rfl .i64 .i64 ns.length (by omega) (by omega) W
  have HN : Hid (NodesAt w a ns) := hN
  clear hN
  have R0 := World.rowIs_made (w.alloc (.cells #[.string name, .slice a ns.length c] 26)) (.bool false) ns.length 4
  rw [World.size_alloc] at R0
  have e1 : (p : Int) < (ns.length : Int) := by omega
  have e2 : (b : Int) < (ns.length : Int) := by omega
  have z1 := R0.cell hb
  have z2 := R0.frozen b
  have B0 : (((w.alloc (.cells #[.string name, .slice a ns.length c] 26)).alloc (.cells (madeCells #[.bool false] ns.length) 4)).setCell ⟨w.heap.size + 1, b, none⟩ (.bool true)).heap[w.heap.size]? = some (.cells #[.string name, .slice a ns.length c] 26 (0, 0)) := by
    rw [Below.heap_setCell _ _ _ _ (fun e => by simp at e)]
    rw [(Kept.alloc (fun _ => False) _ _).block w.heap.size (by simp) (fun h => h)]
    exact heap_alloc_new _ _
  have HS0 : Hid ((((w.alloc (.cells #[.string name, .slice a ns.length c] 26)).alloc (.cells (madeCells #[.bool false] ns.length) 4)).setCell ⟨w.heap.size + 1, b, none⟩ (.bool true)).rowIs (w.heap.size + 1) 4 ns.length (fun x => .bool (decide (x = b)))) := (R0.set b (.bool true)).congr (fun q _ => by by_cases e : q = b <;> simp [e])
  have K0 : Hid (Kept (fun j => j = w.heap.size + 1) w (((w.alloc (.cells #[.string name, .slice a ns.length c] 26)).alloc (.cells (madeCells #[.bool false] ns.length) 4)).setCell ⟨w.heap.size + 1, b, none⟩ (.bool true))) := ((Kept.alloc _ _ _).and (Kept.alloc _ _ _)).and (Kept.setCell _ _ _ rfl)
  have HB0 : Hid _ := B0
  clear B0 R0
  go_enter Tryd.func19, Tryd.ntmps19
  go_wp2_with fail
  clear z1 z2 hm1
  have hSt : SeenSt w ns (((w.alloc (.cells #[.string name, .slice a ns.length c] 26)).alloc (.cells (madeCells #[.bool false] ns.length) 4)).setCell ⟨w.heap.size + 1, b, none⟩ (.bool true)) name a c (seenK ns b 0) := ⟨HS0.out, K0.out, HB0.out⟩
  have hE := alloc_set (w.alloc (.cells #[.string name, .slice a ns.length c] 26)) (madeCells #[.bool false] ns.length) 4 b (.bool true)
  rw [World.size_alloc] at hE
  rw [hE] at hSt
  have HSt : Hid _ := hSt
  clear hE
  clear hSt HS0 K0 HB0
  go_loopw [8] (fun q wr => ∃ (k : Nat), k ≤ ns.length ∧ q = .int .i64 k ∧ SeenSt w ns wr name a c (seenK ns b k)) (fun q _ => ns.length - (intOf q).toNat)
  case atStart => exact ⟨0, Nat.zero_le _, rfl, HSt.out⟩
  case round =>
    obtain ⟨k, hk, rfl, S⟩ := hrel
    obtain ⟨⟨x0, x1⟩, _, _⟩ := twoC S.box
    have HSk : Hid (SeenSt w ns wr name a c (seenK ns b k)) := S
    by_cases hlk : k < ns.length
    · have g1 : (k : Int) < (ns.length : Int) := by omega
      clear S
      go_wp2_with fail
      go_loopw [9] (fun q wr => ∃ (i : Nat), i ≤ ns.length ∧ q = .int .i64 i ∧ SeenSt w ns wr name a c (rowS ns (seenK ns b k) i)) (fun q _ => ns.length - (intOf q).toNat)
      case atStart => exact ⟨0, Nat.zero_le _, rfl, HSk.out⟩
      case round =>
        obtain ⟨i, hi, rfl, S⟩ := hrel
        obtain ⟨⟨x0, x1⟩, _, _⟩ := twoC S.box
        have HSi : Hid (SeenSt w ns wr name a c (rowS ns (seenK ns b k) i)) := S
        by_cases hli : i < ns.length
        · have g2 : (i : Int) < (ns.length : Int) := by omega
          clear S
          go_wp2_with fail
          have HRn : Hid (rowS ns (seenK ns b k) (i + 1) = nodeS ns (rowS ns (seenK ns b k) i) i) := rowS_next ns _ i
          generalize hs0 : rowS ns (seenK ns b k) i = s0 at *
          go_loopw [10] (fun q wr => ∃ (m : Nat), m ≤ (ns[i]).after.length ∧ q = .int .i64 m ∧ (m = 0 ∨ s0 i = true) ∧ SeenSt w ns wr name a c (((ns[i]).after.take m).foldl (markJ ns) s0)) (fun q _ => (ns[i]).after.length - (intOf q).toNat)
          case atStart => exact ⟨0, Nat.zero_le _, rfl, .inl rfl, HSi.out⟩
          case round =>
            obtain ⟨m, hm, rfl, hm0, S⟩ := hrel
            have HSm : Hid (SeenSt w ns wr name a c (((ns[i]).after.take m).foldl (markJ ns) s0)) := S
            have HKe : Hid (s0 i = true → ((ns[i]).after.take m).foldl (markJ ns) s0 i = true) := fun h => markL_keep _ h
            have HM0 : Hid (m = 0 ∨ s0 i = true) := hm0
            have HNf : Hid (s0 i = false → nodeS ns s0 i = s0) := fun h => by unfold nodeS; rw [List.getElem?_eq_getElem hli]; simp [h]
            have HNt : Hid (s0 i = true → nodeS ns s0 i = (ns[i]).after.foldl (markJ ns) s0) := fun h => by unfold nodeS; rw [List.getElem?_eq_getElem hli]; simp [h]
            have HMn : Hid (∀ h : m < (ns[i]).after.length, ((ns[i]).after.take (m + 1)).foldl (markJ ns) s0 = markJ ns (((ns[i]).after.take m).foldl (markJ ns) s0) (ns[i]).after[m]) := fun h => mark_next h
            have HTk : Hid (m = (ns[i]).after.length → (ns[i]).after.take m = (ns[i]).after) := fun h => by rw [h, List.take_length]
            clear hm0
            generalize hsn : ((ns[i]).after.take m).foldl (markJ ns) s0 = seen at *
            obtain ⟨RI, K, hbx⟩ := S
            obtain ⟨⟨x0, x1⟩, _, _⟩ := twoC hbx
            have hrl := RI.lt
            have Nr : NodesAt wr a ns := HN.out.kept K (fun k hk => by omega)
            obtain ⟨b2, o, av, cv, rfl, hT, c0, c1, c2, c3, c4, c5, c6⟩ := Nr.at hli
            have hfew := (HN.out.1 _ (List.getElem_mem hli)).few
            have cs := RI.cell hli
            by_cases hlm : m < (ns[i]).after.length
            · have g3 : (m : Int) < ((ns[i]).after.length : Int) := by omega
              cases hsi : seen i with
              | false =>
                rw [hsi] at cs
                have hz : s0 i = false := by
                  cases h : s0 i with
                  | false => rfl
                  | true => have := HKe.out h; rw [hsi] at this; cases this
                have hmz : m = 0 := by rcases HM0.out with h | h; exact h; rw [hz] at h; cases h
                have HFi : Hid (SeenSt w ns wr name (some ⟨b2, o, none⟩) c (nodeS ns s0 i)) := by
                  rw [HNf.out hz]
                  have hse : seen = s0 := by rw [← hsn, hmz]; rfl
                  have := HSm.out
                  rw [hse] at this
                  exact this
                clear hT RI K hbx Nr HSi HSk hsi hz hmz hsn HNf HNt HMn HTk HKe HM0
                generalize ns[i] = x at *
                go_wp2_with fail
                go_roundw
                case rel => exact ⟨i + 1, by omega, by go_num, by rw [HRn.out]; exact HFi.out⟩
                case measure => simp [intOf]; omega
              | true =>
                rw [hsi] at cs
                obtain ⟨a2, c2', hsl, hc2, hne⟩ := hT.at
                obtain ⟨rfl, rfl⟩ : av = a2 ∧ cv = c2' := by simpa using hsl
                obtain ⟨xb, xo, rfl, hcell⟩ := hne (fun e => by rw [e] at hlm; simp at hlm)
                have hck := hcell m hlm
                have KD := Kept.drew (fun _ => False) wr
                have FI := refFind_any wr.drew name (some ⟨b2, o, none⟩) ns.length c ns (keptNew KD Nr) rfl (by omega) (ns[i]).after[m]
                have hz : s0 i = true := by
                  rcases HM0.out with h | h
                  · have hse : seen = s0 := by rw [← hsn, h]; rfl
                    rw [← hse]; exact hsi
                  · exact h
                have HMk : Hid (∀ fr, findP ns (ns[i]).after[m] = fr → ((ns[i]).after.take (m + 1)).foldl (markJ ns) s0 = match fr with | some j => fun x => if x = j then true else seen x | none => seen) := fun fr h => by
                  rw [HMn.out hlm]
                  unfold markJ
                  rw [h]
                have HLt : Hid (∀ j, findP ns (ns[i]).after[m] = some j → j < ns.length) := fun j hj => findP_lt hj
                have HRI : Hid (wr.rowIs (w.heap.size + 1) 4 ns.length (fun x => .bool (seen x))) := RI
                have HZ : Hid (s0 i = true) := hz
                have HKk : Hid (Kept (fun j => j = w.heap.size + 1) w wr) := K
                have HBx : Hid (wr.heap[w.heap.size]? = some (.cells #[.string name, .slice (some ⟨b2, o, none⟩) ns.length c] 26 (0, 0))) := hbx
                have HS : Hid (∀ V, Kept (fun _ => False) wr.drew V → Kept (fun _ => False) wr.drew V ∧ V.cell? ⟨w.heap.size, 0, none⟩ = some (.string name) ∧ V.cell? ⟨w.heap.size, 1, none⟩ = some (.slice (some ⟨b2, o, none⟩) ns.length c) ∧ V.cell? ⟨b2, o + i * 7 + 6, none⟩ = some (.slice (some ⟨xb, xo, none⟩) (ns[i]).after.length cv) ∧ V.cell? ⟨xb, xo + m, none⟩ = some (.string (ns[i]).after[m])) := fun V KV => ⟨KV, keepC (KD.and KV) x0 (fun _ _ h => h), keepC (KD.and KV) x1 (fun _ _ h => h), keepC (KD.and KV) c6 (fun _ _ h => h), keepC (KD.and KV) hck (fun _ _ h => h)⟩
                have HKD : Hid (Kept (fun _ => False) wr wr.drew) := KD
                have w1 : IntKind.i64.wrap (i : Int) = (i : Int) := by rw [IntKind.wrap_i64]; omega
                have w2 : IntKind.i64.wrap (m : Int) = (m : Int) := by rw [IntKind.wrap_i64]; omega
                clear hsl hne hcell hT RI K hbx Nr HSi HSk hsi KD c0 c1 c2 c3 c4 c5 hz hsn HNf HNt HMn HTk HKe HM0
                generalize hTn : ((ns[i]).after.take (m + 1)).foldl (markJ ns) s0 = sn at *
                generalize findP ns (ns[i]).after[m] = fr at *
                generalize (ns[i]).after[m] = s at *
                have HTn : Hid (((ns[i]).after.take (m + 1)).foldl (markJ ns) s0 = sn) := hTn
                clear hTn
                generalize hal : (ns[i]).after.length = al at *
                have HAl : Hid ((ns[i]).after.length = al) := hal
                clear hal
                go_wp2_with fail
                refine wp_onlyN ?_
                (go_region_held (fun V => Kept (fun _ => False) wr.drew V ∧ V.cell? ⟨w.heap.size, 0, none⟩ = some (.string name) ∧ V.cell? ⟨w.heap.size, 1, none⟩ = some (.slice (some ⟨b2, o, none⟩) ns.length c) ∧ V.cell? ⟨b2, o + i * 7 + 6, none⟩ = some (.slice (some ⟨xb, xo, none⟩) al cv) ∧ V.cell? ⟨xb, xo + m, none⟩ = some (.string s)) (first | exact HS.out _ (Kept.refl _ _) | exact HS.out _ (by assumption)) (first
                  | (go_at_call 35; refine FI.mono ?_; rintro e w5 ⟨rfl, K5⟩)
                  | fail))
                simp only [onlyN]
                rename_i hHeld
                clear hHeld HS FI
                have K5' : Kept (fun _ => False) wr w5 := HKD.out.and K5
                have R5 : w5.rowIs (w.heap.size + 1) 4 ns.length (fun x => .bool (seen x)) := HRI.out.of_block (K5'.block _ hrl (fun h => h))
                have HR5 : Hid (w5.rowIs (w.heap.size + 1) 4 ns.length (fun x => .bool (seen x))) := R5
                have HK5 : Hid (Kept (fun j => j = w.heap.size + 1) w w5) := HKk.out.and (K5'.mono (fun _ h => h.elim))
                have HB5 : Hid (w5.heap[w.heap.size]? = some (.cells #[.string name, .slice (some ⟨b2, o, none⟩) ns.length c] 26 (0, 0))) := (K5'.block _ (by omega) (fun h => h)).trans HBx.out
                cases fr with
                | none =>
                  clear R5 K5 K5' HRI HKk HBx HLt
                  go_wp2_with fail
                  go_roundw
                  case rel => exact ⟨m + 1, by omega, by go_num, .inr HZ.out, by rw [HTn.out, HMk.out none rfl]; exact ⟨HR5.out, HK5.out, HB5.out⟩⟩
                  case measure => simp [intOf]; omega
                | some j =>
                  have hjl := HLt.out j rfl
                  have q1 := R5.cell hjl
                  have q2 := R5.frozen j
                  have g4 : (j : Int) < (ns.length : Int) := by omega
                  have HSS : Hid (SeenSt w ns (w5.setCell ⟨w.heap.size + 1, j, none⟩ (.bool true)) name (some ⟨b2, o, none⟩) c sn) := by
                    rw [HMk.out (some j) rfl]
                    refine ⟨(R5.set j (.bool true)).congr (fun q _ => by by_cases e : q = j <;> simp [e]), HK5.out.and (Kept.setCell _ _ _ rfl), ?_⟩
                    rw [Below.heap_setCell _ _ _ _ (fun e => by simp at e)]
                    exact HB5.out
                  clear R5 K5 K5' HRI HKk HBx HLt
                  go_wp2_with fail
                  go_roundw
                  case rel => exact ⟨m + 1, by omega, by go_num, .inr HZ.out, by rw [HTn.out]; exact HSS.out⟩
                  case measure => simp [intOf]; omega
            · obtain hme : m = (ns[i]).after.length := by omega
              have g3 : ¬ (m : Int) < ((ns[i]).after.length : Int) := by omega
              have HFi : Hid (SeenSt w ns wr name (some ⟨b2, o, none⟩) c (nodeS ns s0 i)) := by
                have h1 := HSm.out
                rw [← hsn, HTk.out hme] at h1
                cases hz : s0 i with
                | true => rw [HNt.out hz]; exact h1
                | false =>
                  rw [HNf.out hz]
                  have hmz : m = 0 := by rcases HM0.out with h | h; exact h; rw [hz] at h; cases h
                  have hnil : (ns[i]).after = [] := List.eq_nil_of_length_eq_zero (by omega)
                  rw [hnil] at h1
                  exact h1
              clear hT RI K hbx Nr HSi HSk hme hsn HNf HNt HMn HTk HKe HM0
              generalize ns[i] = x at *
              go_wp2_with fail
              go_roundw
              case rel => exact ⟨i + 1, by omega, by go_num, by rw [HRn.out]; exact HFi.out⟩
              case measure => simp [intOf]; omega
        · obtain rfl : i = ns.length := by omega
          have g2 : ¬ (ns.length : Int) < (ns.length : Int) := by omega
          clear S
          go_wp2_with fail
          go_roundw
          case rel => exact ⟨k + 1, by omega, by go_num, HSi.out⟩
          case measure => simp [intOf]; omega
    · obtain rfl : k = ns.length := by omega
      obtain ⟨RI, K, hbx⟩ := S
      have c1 := RI.cell hp
      have g2 : ¬ (ns.length : Int) < (ns.length : Int) := by omega
      have hlp : seenK ns b ns.length p = leadP ns b p := rfl
      rw [hlp] at c1
      clear hlp
      have Kw : Kept (fun _ => False) w wr := (Kept.refl (fun _ => False) w).trans K (fun g h => .inr (by omega))
      clear RI K hbx HSk
      generalize hr : leadP ns b p = r at *
      have HL : Hid (leadP ns b p = r) := hr
      clear hr
      go_wp2_with fail
      go_ret
      exact ⟨by rw [HL.out]; rfl, Kw⟩

end Go.Proofs.YtalhdgelkomaiaaDoor
