/-
  The document's Quote.
-/
import Derived.Test.YtdbplemcjnlfiaaGreatDoorFQuo
import Derived.Test.YtdbplemcjnlfiaaGreatDoorFRefUW
import Derived.Test.YtdbplemcjnlfiaaGreatDoorFPairs
import Derived.Deep.RegionLaw
import Derived.Lib.AppendStr
namespace Go.Proofs.YtdbplemcjnlfiaaGreatDoor
open Go.RowKit

/-- append(v, x...) onto a row that is owned, as a step of a region that draws. -/
theorem step_append_src {P : Program} {ops : Array Oper} {o : Oper} {a : Act} (w : World) {K : Act → World → Prop} {Q : Exit → Act → World → Prop} {E : Prop}
    (hg : o.guard = none) (s x : Operand) (t : TypeId) (hop : o.op = Op.call { callee := Callee.builtin Builtin.append, args := #[s, x], argTypes := #[t, t] })
    (base : Nat) (e : TypeId) (i : TypeInfo) (z : Value) (size bytes : Nat) (ht : P.underlying t = some (.slice e)) (hi : P.info? e = some i) (hz : i.zero = some z)
    (hsize : i.size = size) (hby : i.bytes = bytes) (hzs : z.cells.size = size) (hsz : 0 < size)
    (v : Value) (n : Nat) (xs : List Value) (hs : a.eval s = v) (hown : w.ownsRow base e size v n xs) (xv : Value) (hx : a.eval x = xv) (m : Nat) (news : List Value) (hsrc : Src w size xv m news) (h1 : ∀ u ∈ news, u.oneCell' = true)
    (h63 : n + m ≤ maxLen) (hbytes : (n + m) * bytes ≤ 140737488355328) (hbase : base ≤ w.heap.size)
    (hK : ∀ a' cap w', w'.ownsRow base e size (.slice a' (n + m) cap) (n + m) (xs ++ news) → w.grownBy w' v.ownBlock → (Value.slice a' (n + m) cap = .slice none 0 0 ↔ v = .slice none 0 0 ∧ m = 0) → ((Value.slice a' (n + m) cap).ownBlock = v.ownBlock ∨ (Value.slice a' (n + m) cap).ownBlock = some w.heap.size) → K (a.put o.dst (.slice a' (n + m) cap)) w') :
    if Region.wanted o (yielded ops a.tmps) = true then Oper.wp P o a w K Q else E := by
  have hw : Region.wanted o (yielded ops a.tmps) = true := by simp [Region.wanted, hg]
  rw [if_pos hw]
  obtain ⟨v', w', hrun, h2, h3, h4, h5⟩ := run_append_src (P := P) w base t o.type e i z size bytes ht hi hz hsize hby hzs hsz v n xs hown xv m news hsrc h1 h63 hbytes hbase
  obtain ⟨a', cap, rfl⟩ := ownsRow_shape h2
  unfold Oper.wp
  simp [execOp, hop, resolve, invoke, builtin, hs, hx, hrun, Result.andThen]
  exact hK a' cap w' h2 h3 h4 h5

/-- Bytes that are gathered. -/
structure OSt (w W : World) (v : Value) (l : List UInt8) : Prop where
  own : W.ownsRow w.heap.size 5 1 v l.length (Lib.byteCells l)
  kept : Kept (fun _ => False) w W

theorem bc_len (l : List UInt8) : (Lib.byteCells l).length = l.length := by unfold Lib.byteCells; rw [List.length_map]

theorem OSt.push {w W w3 : World} {v v3 : Value} {l : List UInt8} {s : ByteArray} (S : OSt w W v l) (ho : w3.ownsRow w.heap.size 5 1 v3 (l.length + s.size) (Lib.byteCells l ++ Lib.strCells s)) (hg : W.grownBy w3 v.ownBlock) : OSt w w3 v3 (l ++ s.data.toList) := by
  refine ⟨?_, S.kept.trans (Kept.grown hg (fun k e => (S.own.lt k e).1)) (fun k h => .inr h)⟩
  rw [List.length_append, show s.data.toList.length = s.size from Array.length_toList, show Lib.byteCells (l ++ s.data.toList) = Lib.byteCells l ++ Lib.strCells s by unfold Lib.byteCells Lib.strCells; rw [List.map_append]]
  exact ho

theorem OSt.push2 {w W w3 : World} {v : Value} {a3 : Option Addr} {c3 : Nat} {l m : List UInt8} {o : Obj} {q : World} (S : OSt w W v l) (hq : Kept (fun _ => False) W q) (ho : w3.ownsRow w.heap.size 5 1 (.slice a3 (l.length + m.length) c3) (l.length + m.length) (Lib.byteCells l ++ Lib.byteCells m)) (hg : (q.alloc o).grownBy w3 v.ownBlock) : OSt w w3 (.slice a3 (l.length + m.length) c3) (l ++ m) := by
  have K : Kept (fun _ => False) w (q.alloc o) := (S.kept.and hq).and (Kept.alloc _ _ _)
  refine ⟨?_, K.trans (Kept.grown hg (fun k e => (S.own.lt k e).1)) (fun k h => .inr h)⟩
  rw [List.length_append, show Lib.byteCells (l ++ m) = Lib.byteCells l ++ Lib.byteCells m by unfold Lib.byteCells; rw [List.map_append]]
  exact ho

theorem nums_mk (l : List UInt8) : strOfNums (l.map (fun b => (b.toNat : Int))) = mkB l := by
  have h : (l.map (fun b => (b.toNat : Int))).map (fun n => UInt8.ofNat n.toNat) = l := by
    rw [List.map_map]
    conv => rhs; rw [← List.map_id l]
    apply List.map_congr_left
    intro b _
    simp
  show (⟨((l.map (fun b => (b.toNat : Int))).map (fun n => UInt8.ofNat n.toNat)).toArray⟩ : ByteArray) = ⟨l.toArray⟩
  rw [h]

theorem OSt.bytes {w W : World} {a : Option Addr} {c : Nat} {l : List UInt8} (S : OSt w W (.slice a l.length c) l) : BytesAt W a l.length c (l.map (fun b => (b.toNat : Int))) := by
  rcases S.own.2 with ⟨h1, h2⟩ | ⟨g, cap, cur, h1, hb, hg, hcap, hmx, hsz, htake⟩
  · have : l = [] := List.eq_nil_of_length_eq_zero h2
    subst this
    simp only [Value.slice.injEq] at h1
    obtain ⟨rfl, _, rfl⟩ := h1
    exact ⟨rfl, Nat.le_refl _, (fun _ => rfl), (fun ad h => by cases h), (fun y hy => by cases hy)⟩
  · simp only [Value.slice.injEq, true_and] at h1
    obtain ⟨rfl, rfl⟩ := h1
    refine ⟨by rw [List.length_map], hcap, (fun h => by cases h), fun ad h j u hu => ?_, fun y hy => ?_⟩
    · cases h
      refine S.own.cells (g := g) rfl j u ?_
      rw [List.map_map] at hu
      exact hu
    · obtain ⟨z, _, rfl⟩ := List.mem_map.1 hy
      have := z.toNat_lt
      omega

theorem OSt.str {w W : World} {a : Option Addr} {n c : Nat} {l : List UInt8} (S : OSt w W (.slice a n c) l) (hn : n = l.length) : (convert 47 9 (.slice a n c)).run Tryz.prog W = .ok (.string (mkB l)) W := by
  subst hn
  have h := S.bytes.str
  rwa [nums_mk] at h

theorem OSt.push3 {w W w3 : World} {a a3 : Option Addr} {n c c3 : Nat} {l m : List UInt8} {o : Obj} (S : OSt w W (.slice a l.length c) l) (hn : n = l.length) (_hv : (Value.slice a n c) = .slice a l.length c) (ho : w3.ownsRow w.heap.size 5 1 (.slice a3 (n + m.length) c3) (n + m.length) (Lib.byteCells l ++ Lib.byteCells m)) (hg : (W.alloc o).drew.grownBy w3 (Value.slice a n c).ownBlock) : OSt w w3 (.slice a3 (n + m.length) c3) (l ++ m) := by
  subst hn
  have K : Kept (fun _ => False) w (W.alloc o).drew := (S.kept.and (Kept.alloc _ _ _)).and (Kept.drew _ _)
  refine ⟨?_, K.trans (Kept.grown hg (fun k e => (S.own.lt k e).1)) (fun k h => .inr h)⟩
  rw [List.length_append, show Lib.byteCells (l ++ m) = Lib.byteCells l ++ Lib.byteCells m by unfold Lib.byteCells; rw [List.map_append]]
  exact ho

theorem hex_ix (k : Nat) (hk : k < 16) (W : World) : (Instr.index 9 (.string ⟨#[48, 49, 50, 51, 52, 53, 54, 55, 56, 57, 97, 98, 99, 100, 101, 102]⟩) (.int .u8 (k : Int))).run Tryz.prog W = .ok (.int .u8 ((hexC k).toNat : Int)) W := by
  rw [run_index_string W _ _ _ _ Tryz.underlying9]
  rw [dif_pos ⟨by omega, by show (k : Int) < 16; omega⟩]
  have h : ∀ j : Fin 16, ((⟨#[48, 49, 50, 51, 52, 53, 54, 55, 56, 57, 97, 98, 99, 100, 101, 102]⟩ : ByteArray).data.toList.getD j.1 0) = hexC j.1 := by decide +kernel
  have h2 := h ⟨k, hk⟩
  rw [getD_is _ k (by show k < 16; exact hk)] at h2
  simp only [Int.toNat_natCast]
  rw [h2]

theorem OSt.top {w W : World} {v : Value} {l : List UInt8} (S : OSt w W v l) : w.heap.size ≤ W.heap.size := S.kept.size

theorem OSt.call {w W W' : World} {v : Value} {l : List UInt8} (S : OSt w W v l) (K : Kept (fun _ => False) W W') : OSt w W' v l :=
  ⟨ownsRow_keep S.own (fun g hg => K.block g (ownsRow_blk S.own hg) (fun h => h)), S.kept.and K⟩

theorem piece_ascii {s : ByteArray} {i : Nat} (h : i < s.size) (hc : (s[i]'h).toNat < 128) : Utf8.decode s i = ((s[i]'h).toNat, 1) := decode_ascii s i h hc

set_option maxRecDepth 100000 in
set_option maxHeartbeats 4000000 in
theorem refQuote_any (w : World) (s : ByteArray) (hs : s.size ≤ 1000000000000) :
    Calls Tryz.prog 32 #[.string s] w fun e w' => e = .returned (.string (mkB (quoteP s))) ∧ Kept (fun _ => False) w w' := by
  obtain ⟨i0, hi0, hz0, hz1, hz2⟩ := info_parts Tryz.info5
  have HS0 : Hid (OSt w (w.alloc (.cells #[.int .u8 34] 5)) (.slice (some ⟨w.heap.size, 0, none⟩) 1 1) [34]) := ⟨World.ownsRow_lit (base := w.heap.size) (e := 5) (size := 1) w #[.int .u8 34] 1 (Nat.le_refl _) (by simp [maxLen]) rfl, Kept.alloc _ _ _⟩
  go_enter Tryz.func32, Tryz.ntmps32
  go_wp2
  go_loopw [3, 4, 5, 6] (fun v iv _ _ wr => ∃ (i n : Nat) (acc : List UInt8) (a : Option Addr) (c : Nat), v = .slice a acc.length c ∧ i ≤ s.size ∧ s.size ≤ i + n ∧ iv = .int .i64 (i : Int) ∧ acc.length ≤ 1 + 6 * i ∧ OSt w wr (.slice a acc.length c) acc ∧ acc ++ quoteF s n i = 34 :: quoteF s (s.size + 1) 0) (fun _ iv _ _ _ => s.size - (intOf iv).toNat)
  case atStart => exact ⟨0, s.size + 1, [34], _, _, rfl, by omega, by omega, rfl, by simp, HS0.out, rfl⟩
  case round =>
    clear HS0
    obtain ⟨i, n, acc, a, c, rfl, hi, hn, rfl, hacc, S, hF⟩ := hrel
    have HF := hid hF
    have hbase := S.top
    clear hF
    by_cases hlt : i < s.size
    · obtain ⟨m, rfl⟩ : ∃ m, n = m + 1 := ⟨n - 1, by omega⟩
      have e0 : (i : Int) < (s.size : Int) := by omega
      have hU := utf8_any wr s i hs hlt
      rw [utR_is s i hlt] at hU
      have hix := ix_str s hlt
      have HM : Hid (quoteF s (m + 1) i = pieceP s i ++ quoteF s m (i + (Utf8.decode s i).2)) := quoteF_more hlt
      by_cases hc : (s[i]'hlt).toNat < 128
      · have hd := piece_ascii hlt hc
        have HZ : Hid ((Utf8.decode s i).2 = 1) := by show (Utf8.decode s i).2 = 1; rw [hd]
        have hnb : ¬ ((Utf8.decode s i).1 = 65533 ∧ (Utf8.decode s i).2 = 1) := by rw [hd]; simp only; omega
        rw [if_neg hnb, HZ.out] at hU
        change Calls Tryz.prog 15 _ wr (fun e w' => e = .returned (.int .i64 1) ∧ w' = wr) at hU
        have hpc : pieceP s i = if (s[i]'hlt).toNat < 32 ∨ (s[i]'hlt).toNat = 34 ∨ (s[i]'hlt).toNat = 92 then escd (s[i]'hlt) else [s[i]'hlt] := by
          unfold pieceP
          rw [if_neg hnb, hd]
          simp only
          rw [getD_is s i hlt]
          split
          · rfl
          · have : (s.extract i (i + 1)).data.toList = [s[i]'hlt] := by
              have h1 := sub_extract s i (i + 1)
              have h2 : (s.extract i (i + 1)).data.toList = subL s i (i + 1) := by rw [← h1]; rfl
              rw [h2]
              unfold subL
              rw [drop_next s hlt, show i + 1 - i = 1 by omega]
              rfl
            exact this
        have hlt2 : (s[i]'hlt).toNat < 256 := by omega
        have HC : Hid (s[i]'hlt = UInt8.ofNat (s[i]'hlt).toNat) := by show s[i]'hlt = _; rw [UInt8.ofNat_toNat]
        generalize hcc : s[i]'hlt = cc at *
        have HCC := hid hcc
        clear hd hnb hcc
        by_cases h8 : cc = 8
        · subst h8
          have HP : Hid (pieceP s i = [92, 98]) := by show pieceP s i = _; rw [hpc]; decide +kernel
          change ∀ W, _ = Result.ok (Value.int .u8 8) W at hix
          clear hpc hc hlt2
          go_wp2_with (first
            | (go_at_call 15; refine hU.mono ?_; rintro e w2 ⟨rfl, hw2⟩; subst w2; clear hU)
            | (at_builtin; refine Lib.wpList_append_own_string _ rfl _ _ 47 9 rfl w.heap.size 5 i0 Tryz.underlying47 Tryz.underlying9 hi0 hz0 hz1 hz2 (.slice a acc.length c) acc.length (Lib.byteCells acc) rfl S.own ⟨#[92, 98]⟩ rfl (by show acc.length + 2 ≤ maxLen; unfold maxLen; omega) (by show acc.length + 2 ≤ _; omega) hbase ?_; intro v3 w3 ho3 hg3 _; have S3 := S.push ho3 hg3; obtain ⟨a3, c3, rfl⟩ := ownsRow_shape S3.own; have HS3 := hid S3; clear ho3 hg3 S3)
            | fail)
          go_roundw
          case rel => exact ⟨i + 1, m, acc ++ [92, 98], a3, c3, by first | rfl | (rw [List.length_append]; rfl), by omega, by omega, by go_num, by rw [List.length_append]; simp; omega, by first | exact HS3.out | (rw [List.length_append]; exact HS3.out), by rw [← HF.out, HM.out, HP.out, HZ.out, List.append_assoc]⟩
          case measure => simp [intOf]; omega
        by_cases h12 : cc = 12
        · subst h12
          have HP : Hid (pieceP s i = [92, 102]) := by show pieceP s i = _; rw [hpc]; decide +kernel
          change ∀ W, _ = Result.ok (Value.int .u8 12) W at hix
          clear hpc hc hlt2
          go_wp2_with (first
            | (go_at_call 15; refine hU.mono ?_; rintro e w2 ⟨rfl, hw2⟩; subst w2; clear hU)
            | (at_builtin; refine Lib.wpList_append_own_string _ rfl _ _ 47 9 rfl w.heap.size 5 i0 Tryz.underlying47 Tryz.underlying9 hi0 hz0 hz1 hz2 (.slice a acc.length c) acc.length (Lib.byteCells acc) rfl S.own ⟨#[92, 102]⟩ rfl (by show acc.length + 2 ≤ maxLen; unfold maxLen; omega) (by show acc.length + 2 ≤ _; omega) hbase ?_; intro v3 w3 ho3 hg3 _; have S3 := S.push ho3 hg3; obtain ⟨a3, c3, rfl⟩ := ownsRow_shape S3.own; have HS3 := hid S3; clear ho3 hg3 S3)
            | fail)
          go_roundw
          case rel => exact ⟨i + 1, m, acc ++ [92, 102], a3, c3, by first | rfl | (rw [List.length_append]; rfl), by omega, by omega, by go_num, by rw [List.length_append]; simp; omega, by first | exact HS3.out | (rw [List.length_append]; exact HS3.out), by rw [← HF.out, HM.out, HP.out, HZ.out, List.append_assoc]⟩
          case measure => simp [intOf]; omega
        by_cases h10 : cc = 10
        · subst h10
          have HP : Hid (pieceP s i = [92, 110]) := by show pieceP s i = _; rw [hpc]; decide +kernel
          change ∀ W, _ = Result.ok (Value.int .u8 10) W at hix
          clear hpc hc hlt2
          go_wp2_with (first
            | (go_at_call 15; refine hU.mono ?_; rintro e w2 ⟨rfl, hw2⟩; subst w2; clear hU)
            | (at_builtin; refine Lib.wpList_append_own_string _ rfl _ _ 47 9 rfl w.heap.size 5 i0 Tryz.underlying47 Tryz.underlying9 hi0 hz0 hz1 hz2 (.slice a acc.length c) acc.length (Lib.byteCells acc) rfl S.own ⟨#[92, 110]⟩ rfl (by show acc.length + 2 ≤ maxLen; unfold maxLen; omega) (by show acc.length + 2 ≤ _; omega) hbase ?_; intro v3 w3 ho3 hg3 _; have S3 := S.push ho3 hg3; obtain ⟨a3, c3, rfl⟩ := ownsRow_shape S3.own; have HS3 := hid S3; clear ho3 hg3 S3)
            | fail)
          go_roundw
          case rel => exact ⟨i + 1, m, acc ++ [92, 110], a3, c3, by first | rfl | (rw [List.length_append]; rfl), by omega, by omega, by go_num, by rw [List.length_append]; simp; omega, by first | exact HS3.out | (rw [List.length_append]; exact HS3.out), by rw [← HF.out, HM.out, HP.out, HZ.out, List.append_assoc]⟩
          case measure => simp [intOf]; omega
        by_cases h13 : cc = 13
        · subst h13
          have HP : Hid (pieceP s i = [92, 114]) := by show pieceP s i = _; rw [hpc]; decide +kernel
          change ∀ W, _ = Result.ok (Value.int .u8 13) W at hix
          clear hpc hc hlt2
          go_wp2_with (first
            | (go_at_call 15; refine hU.mono ?_; rintro e w2 ⟨rfl, hw2⟩; subst w2; clear hU)
            | (at_builtin; refine Lib.wpList_append_own_string _ rfl _ _ 47 9 rfl w.heap.size 5 i0 Tryz.underlying47 Tryz.underlying9 hi0 hz0 hz1 hz2 (.slice a acc.length c) acc.length (Lib.byteCells acc) rfl S.own ⟨#[92, 114]⟩ rfl (by show acc.length + 2 ≤ maxLen; unfold maxLen; omega) (by show acc.length + 2 ≤ _; omega) hbase ?_; intro v3 w3 ho3 hg3 _; have S3 := S.push ho3 hg3; obtain ⟨a3, c3, rfl⟩ := ownsRow_shape S3.own; have HS3 := hid S3; clear ho3 hg3 S3)
            | fail)
          go_roundw
          case rel => exact ⟨i + 1, m, acc ++ [92, 114], a3, c3, by first | rfl | (rw [List.length_append]; rfl), by omega, by omega, by go_num, by rw [List.length_append]; simp; omega, by first | exact HS3.out | (rw [List.length_append]; exact HS3.out), by rw [← HF.out, HM.out, HP.out, HZ.out, List.append_assoc]⟩
          case measure => simp [intOf]; omega
        by_cases h9 : cc = 9
        · subst h9
          have HP : Hid (pieceP s i = [92, 116]) := by show pieceP s i = _; rw [hpc]; decide +kernel
          change ∀ W, _ = Result.ok (Value.int .u8 9) W at hix
          clear hpc hc hlt2
          go_wp2_with (first
            | (go_at_call 15; refine hU.mono ?_; rintro e w2 ⟨rfl, hw2⟩; subst w2; clear hU)
            | (at_builtin; refine Lib.wpList_append_own_string _ rfl _ _ 47 9 rfl w.heap.size 5 i0 Tryz.underlying47 Tryz.underlying9 hi0 hz0 hz1 hz2 (.slice a acc.length c) acc.length (Lib.byteCells acc) rfl S.own ⟨#[92, 116]⟩ rfl (by show acc.length + 2 ≤ maxLen; unfold maxLen; omega) (by show acc.length + 2 ≤ _; omega) hbase ?_; intro v3 w3 ho3 hg3 _; have S3 := S.push ho3 hg3; obtain ⟨a3, c3, rfl⟩ := ownsRow_shape S3.own; have HS3 := hid S3; clear ho3 hg3 S3)
            | fail)
          go_roundw
          case rel => exact ⟨i + 1, m, acc ++ [92, 116], a3, c3, by first | rfl | (rw [List.length_append]; rfl), by omega, by omega, by go_num, by rw [List.length_append]; simp; omega, by first | exact HS3.out | (rw [List.length_append]; exact HS3.out), by rw [← HF.out, HM.out, HP.out, HZ.out, List.append_assoc]⟩
          case measure => simp [intOf]; omega
        by_cases h34 : cc = 34
        · subst h34
          have HP : Hid (pieceP s i = [92, 34]) := by show pieceP s i = _; rw [hpc]; decide +kernel
          change ∀ W, _ = Result.ok (Value.int .u8 34) W at hix
          clear hpc hc hlt2
          go_wp2_with (first
            | (go_at_call 15; refine hU.mono ?_; rintro e w2 ⟨rfl, hw2⟩; subst w2; clear hU)
            | (at_builtin; refine wpList_append_src _ rfl _ _ 47 rfl w.heap.size 5 i0 _ 1 1 Tryz.underlying47 hi0 hz0 hz1 hz2 rfl (by decide) (.slice a acc.length c) acc.length _ rfl (S.own.alloc _) _ rfl 2 (Lib.byteCells [92, 34]) (.inl ⟨_, 2, rfl, rfl, World.news_of_block (heap_alloc_new _ _)⟩) (by intro u hu; simp [Lib.byteCells] at hu; rcases hu with rfl | rfl <;> rfl) (by unfold maxLen; omega) (by omega) (by rw [World.size_alloc]; omega) ?_; intro a3 c3 w3 ho3 hg3 _ _; have HS3 := hid (S.push2 (m := [92, 34]) (Kept.refl _ _) ho3 hg3); clear ho3 hg3)
            | fail)
          go_roundw
          case rel => exact ⟨i + 1, m, acc ++ [92, 34], a3, c3, by first | rfl | (rw [List.length_append]; rfl), by omega, by omega, by go_num, by rw [List.length_append]; simp; omega, by first | exact HS3.out | (rw [List.length_append]; exact HS3.out), by rw [← HF.out, HM.out, HP.out, HZ.out, List.append_assoc]⟩
          case measure => simp [intOf]; omega
        by_cases h92 : cc = 92
        · subst h92
          have HP : Hid (pieceP s i = [92, 92]) := by show pieceP s i = _; rw [hpc]; decide +kernel
          change ∀ W, _ = Result.ok (Value.int .u8 92) W at hix
          clear hpc hc hlt2
          go_wp2_with (first
            | (go_at_call 15; refine hU.mono ?_; rintro e w2 ⟨rfl, hw2⟩; subst w2; clear hU)
            | (at_builtin; refine wpList_append_src _ rfl _ _ 47 rfl w.heap.size 5 i0 _ 1 1 Tryz.underlying47 hi0 hz0 hz1 hz2 rfl (by decide) (.slice a acc.length c) acc.length _ rfl (S.own.alloc _) _ rfl 2 (Lib.byteCells [92, 92]) (.inl ⟨_, 2, rfl, rfl, World.news_of_block (heap_alloc_new _ _)⟩) (by intro u hu; simp [Lib.byteCells] at hu; rcases hu with rfl | rfl <;> rfl) (by unfold maxLen; omega) (by omega) (by rw [World.size_alloc]; omega) ?_; intro a3 c3 w3 ho3 hg3 _ _; have HS3 := hid (S.push2 (m := [92, 92]) (Kept.refl _ _) ho3 hg3); clear ho3 hg3)
            | fail)
          go_roundw
          case rel => exact ⟨i + 1, m, acc ++ [92, 92], a3, c3, by first | rfl | (rw [List.length_append]; rfl), by omega, by omega, by go_num, by rw [List.length_append]; simp; omega, by first | exact HS3.out | (rw [List.length_append]; exact HS3.out), by rw [← HF.out, HM.out, HP.out, HZ.out, List.append_assoc]⟩
          case measure => simp [intOf]; omega
        have n34 : (((cc.toNat : Nat) : Int) == 34) = false := (u8i_beq cc 34 (by decide)).trans (by simpa using h34)
        have n92 : (((cc.toNat : Nat) : Int) == 92) = false := (u8i_beq cc 92 (by decide)).trans (by simpa using h92)
        have n8 : (((cc.toNat : Nat) : Int) == 8) = false := (u8i_beq cc 8 (by decide)).trans (by simpa using h8)
        have n12 : (((cc.toNat : Nat) : Int) == 12) = false := (u8i_beq cc 12 (by decide)).trans (by simpa using h12)
        have n10 : (((cc.toNat : Nat) : Int) == 10) = false := (u8i_beq cc 10 (by decide)).trans (by simpa using h10)
        have n13 : (((cc.toNat : Nat) : Int) == 13) = false := (u8i_beq cc 13 (by decide)).trans (by simpa using h13)
        have n9 : (((cc.toNat : Nat) : Int) == 9) = false := (u8i_beq cc 9 (by decide)).trans (by simpa using h9)
        by_cases h32 : cc.toNat < 32
        · have HP : Hid (pieceP s i = [92, 117, 48, 48, hexC (cc.toNat / 16), hexC (cc.toNat % 16)]) := by
            show pieceP s i = _
            rw [hpc, if_pos (.inl h32)]
            unfold escd
            simp only [h8, h12, h10, h13, h9, h34, h92, or_self, if_false]
          have l32 : ((cc.toNat : Nat) : Int) < 32 := by omega
          have l0 : (0 : Int) ≤ ((cc.toNat : Nat) : Int) := by omega
          have hdv : Int.tdiv ((cc.toNat : Nat) : Int) 16 = ((cc.toNat / 16 : Nat) : Int) := by rw [Int.tdiv_eq_ediv_of_nonneg (by omega)]; omega
          have hmd : Int.tmod ((cc.toNat : Nat) : Int) 16 = ((cc.toNat % 16 : Nat) : Int) := by rw [Int.tmod_eq_emod_of_nonneg (by omega)]; omega
          have hx1 := hex_ix (cc.toNat / 16) (by omega)
          have hx0 := hex_ix (cc.toNat % 16) (by omega)
          have hw1 : IntKind.u8.wrap ((cc.toNat / 16 : Nat) : Int) = ((cc.toNat / 16 : Nat) : Int) := by rw [IntKind.wrap_u8]; omega
          have hw0 : IntKind.u8.wrap ((cc.toNat % 16 : Nat) : Int) = ((cc.toNat % 16 : Nat) : Int) := by rw [IntKind.wrap_u8]; omega
          have hq1 : ((cc.toNat / 16 : Nat) : Int) < 16 := by omega
          have hq0 : ((cc.toNat % 16 : Nat) : Int) < 16 := by omega
          clear hpc h8 h12 h10 h13 h9 h34 h92 hc hlt2 h32
          generalize ((cc.toNat / 16 : Nat) : Int) = q1 at *
          generalize ((cc.toNat % 16 : Nat) : Int) = q0 at *
          generalize hexC (cc.toNat / 16) = y1 at *
          generalize hexC (cc.toNat % 16) = y0 at *
          generalize ((cc.toNat : Nat) : Int) = xx at *
          go_wp2_with (first
            | (go_at_call 15; refine hU.mono ?_; rintro e w2 ⟨rfl, hw2⟩; subst w2; clear hU)
            | (at_builtin; refine Lib.wpList_append_own_string _ rfl _ _ 47 9 rfl w.heap.size 5 i0 Tryz.underlying47 Tryz.underlying9 hi0 hz0 hz1 hz2 (.slice a acc.length c) acc.length (Lib.byteCells acc) rfl S.own ⟨#[92, 117, 48, 48]⟩ rfl (by show acc.length + 4 ≤ maxLen; unfold maxLen; omega) (by show acc.length + 4 ≤ _; omega) hbase ?_; intro v3 w3 ho3 hg3 _; have S3 := S.push ho3 hg3; obtain ⟨a3, c3, rfl⟩ := ownsRow_shape S3.own; have HS3 := hid S3; clear ho3 hg3 S3)
            | fail)
          have ra : ((w3.alloc (.cells #[.int .u8 (y1.toNat : Int), .int .u8 (y0.toNat : Int)] 5)).drew).ownsRow w.heap.size 5 1 (.slice a3 (acc.length + 4) c3) (acc.length + 4) (Lib.byteCells (acc ++ [92, 117, 48, 48])) := by
            have := World.ownsRow.drew (HS3.out.own.alloc (.cells #[.int .u8 (y1.toNat : Int), .int .u8 (y0.toNat : Int)] 5))
            rw [List.length_append] at this
            exact this
          have hb4 : w.heap.size ≤ (w3.alloc (.cells #[.int .u8 (y1.toNat : Int), .int .u8 (y0.toNat : Int)] 5)).drew.heap.size := by have := HS3.out.top; simp; omega
          have sN : Src (w3.alloc (.cells #[.int .u8 (y1.toNat : Int), .int .u8 (y0.toNat : Int)] 5)).drew 1 (.slice (some ⟨w3.heap.size, 0, none⟩) 2 2) 2 (Lib.byteCells [y1, y0]) := .inl ⟨_, 2, rfl, rfl, World.news_of_block (heap_alloc_new w3 _)⟩
          go_region_law
            (first
              | (refine step_append_src _ (by rfl) _ _ _ (by rfl) w.heap.size 5 i0 _ 1 1 Tryz.underlying47 hi0 hz0 hz1 hz2 rfl (by decide) (.slice a3 (acc.length + 4) c3) (acc.length + 4) _ (by rfl) ra _ (by rfl) 2 _ sN (by intro u hu; simp [Lib.byteCells] at hu; rcases hu with rfl | rfl <;> rfl) (by unfold maxLen; omega) (by omega) hb4 ?_; intro a4 c4 w4 ho4 hg4 _ _))
          all_goals
            have HS4 := hid (HS3.out.push3 (n := acc.length + 4) (m := [y1, y0]) (by rw [List.length_append]; rfl) (by rw [List.length_append]; rfl) ho4 hg4)
            clear ra sN hb4 ho4 hg4
            go_wp2
            go_roundw
            case rel => exact ⟨i + 1, m, acc ++ [92, 117, 48, 48] ++ [y1, y0], a4, c4, by rw [List.length_append, List.length_append]; rfl, by omega, by omega, by go_num, by rw [List.length_append, List.length_append]; simp; omega, by rw [List.length_append, List.length_append]; exact HS4.out, by rw [← HF.out, HM.out, HP.out, HZ.out, List.append_assoc, List.append_assoc]; rfl⟩
            case measure => simp [intOf]; omega
        have HP : Hid (pieceP s i = [cc]) := by
          show pieceP s i = _
          rw [hpc, if_neg]
          rintro (h | h | h)
          · exact h32 h
          · exact h34 (UInt8.toNat_inj.1 h)
          · exact h92 (UInt8.toNat_inj.1 h)
        have l32 : ¬ ((cc.toNat : Nat) : Int) < 32 := by omega
        have hsl : ∀ W, (Instr.slice 9 (.string s) (some (.int .i64 (i : Int))) (some (.int .i64 ((i : Int) + 1))) none).run Tryz.prog W = .ok (.string (mkB [cc])) W := fun W => by
          rw [run_slice_string W _ _ _ _ _ _ Tryz.underlying9 (by omega) (by omega) (by omega)]
          have h1 := sub_extract s i (i + 1)
          have h2 : subL s i (i + 1) = [cc] := by
            unfold subL
            rw [drop_next s hlt, show i + 1 - i = 1 by omega, ← HCC.out]
            rfl
          rw [h2] at h1
          rw [show ((i : Int)).toNat = i by omega, show ((i : Int) + 1).toNat = i + 1 by omega, ← h1]
        have hpz : (mkB [cc]).size = 1 := rfl
        have HPC : Hid ((mkB [cc]).data.toList = [cc]) := rfl
        generalize mkB [cc] = pc at *
        clear hpc h8 h12 h10 h13 h9 h34 h92 hc hlt2 h32
        generalize ((cc.toNat : Nat) : Int) = xx at *
        go_wp2_with (first
          | (go_at_call 15; refine hU.mono ?_; rintro e w2 ⟨rfl, hw2⟩; subst w2; clear hU)
          | (at_builtin; refine Lib.wpList_append_own_string _ rfl _ _ 47 9 rfl w.heap.size 5 i0 Tryz.underlying47 Tryz.underlying9 hi0 hz0 hz1 hz2 (.slice a acc.length c) acc.length (Lib.byteCells acc) rfl S.own pc rfl (by rw [hpz]; unfold maxLen; omega) (by rw [hpz]; omega) hbase ?_; intro v3 w3 ho3 hg3 _; have S3 := S.push ho3 hg3; obtain ⟨a3, c3, rfl⟩ := ownsRow_shape S3.own; have HS3 := hid S3; clear ho3 hg3 S3)
          | fail)
        go_roundw
        case rel => exact ⟨i + 1, m, acc ++ pc.data.toList, a3, c3, by first | rfl | (rw [List.length_append, HPC.out]; rfl), by omega, by omega, by go_num, by rw [List.length_append, HPC.out]; simp; omega, HS3.out, by rw [← HF.out, HM.out, HP.out, HZ.out, HPC.out, List.append_assoc]⟩
        case measure => simp [intOf]; omega
      · by_cases hb : (Utf8.decode s i).1 = 65533 ∧ (Utf8.decode s i).2 = 1
        · have HP : Hid (pieceP s i = [92, 117, 102, 102, 102, 100]) := by
            show pieceP s i = _
            unfold pieceP
            rw [if_pos hb]
          have HZ : Hid ((Utf8.decode s i).2 = 1) := hb.2
          rw [if_pos hb] at hU
          change Calls Tryz.prog 15 _ wr (fun e w' => e = .returned (.int .i64 0) ∧ w' = wr) at hU
          generalize (((s[i]'hlt).toNat : Nat) : Int) = xx at *
          clear hc hb
          go_wp2_with (first
            | (go_at_call 15; refine hU.mono ?_; rintro e w2 ⟨rfl, hw2⟩; subst w2; clear hU)
            | (at_builtin; refine Lib.wpList_append_own_string _ rfl _ _ 47 9 rfl w.heap.size 5 i0 Tryz.underlying47 Tryz.underlying9 hi0 hz0 hz1 hz2 (.slice a acc.length c) acc.length (Lib.byteCells acc) rfl S.own ⟨#[92, 117, 102, 102, 102, 100]⟩ rfl (by show acc.length + 6 ≤ _; unfold maxLen; omega) (by show acc.length + 6 ≤ _; omega) hbase ?_; intro v3 w3 ho3 hg3 _; have S3 := S.push ho3 hg3; obtain ⟨a3, c3, rfl⟩ := ownsRow_shape S3.own; have HS3 := hid S3; clear ho3 hg3 S3)
            | fail)
          go_roundw
          case rel => exact ⟨i + 1, m, acc ++ [92, 117, 102, 102, 102, 100], a3, c3, by first | rfl | (rw [List.length_append]; rfl), by omega, by omega, by go_num, by rw [List.length_append]; simp; omega, by first | exact HS3.out | (rw [List.length_append]; exact HS3.out), by rw [← HF.out, HM.out, HP.out, HZ.out, List.append_assoc]⟩
          case measure => simp [intOf]; omega
        · have hnsm : ¬ ((Utf8.decode s i).1 < 32 ∨ (Utf8.decode s i).1 = 34 ∨ (Utf8.decode s i).1 = 92) := fun h => by
            have := (dec_small hlt (by omega) hb).2
            omega
          have HP : Hid (pieceP s i = (s.extract i (i + (Utf8.decode s i).2)).data.toList) := by
            show pieceP s i = _
            unfold pieceP
            rw [if_neg hb, if_neg hnsm]
          rw [if_neg hb] at hU
          have hp := dec_pos s hlt
          obtain ⟨hl1, hl2⟩ := dec_le s hlt
          have hz4 : (Utf8.decode s i).2 ≤ 4 := by
            rw [Lib.decode_at]
            unfold Lib.decodeN
            repeat' split
            all_goals (simp only; omega)
          clear hb hnsm
          generalize (Utf8.decode s i).2 = zz at *
          have hsl : ∀ W, (Instr.slice 9 (.string s) (some (.int .i64 (i : Int))) (some (.int .i64 ((i : Int) + (zz : Int)))) none).run Tryz.prog W = .ok (.string (s.extract i (i + zz))) W := fun W => by
            rw [run_slice_string W _ _ _ _ _ _ Tryz.underlying9 (by omega) (by omega) (by omega)]
            rw [show ((i : Int)).toNat = i by omega, show ((i : Int) + (zz : Int)).toNat = i + zz by omega]
          have hpz : (s.extract i (i + zz)).size = zz := by rw [ByteArray.size_extract]; omega
          have HPZ := hid hpz
          generalize s.extract i (i + zz) = pc at *
          have nz : ((zz : Int) == 0) = false := by rw [beq_eq_false_iff_ne]; omega
          have n34 : ((((s[i]'hlt).toNat : Nat) : Int) == 34) = false := by rw [beq_eq_false_iff_ne]; omega
          have n92 : ((((s[i]'hlt).toNat : Nat) : Int) == 92) = false := by rw [beq_eq_false_iff_ne]; omega
          have n8 : ((((s[i]'hlt).toNat : Nat) : Int) == 8) = false := by rw [beq_eq_false_iff_ne]; omega
          have n12 : ((((s[i]'hlt).toNat : Nat) : Int) == 12) = false := by rw [beq_eq_false_iff_ne]; omega
          have n10 : ((((s[i]'hlt).toNat : Nat) : Int) == 10) = false := by rw [beq_eq_false_iff_ne]; omega
          have n13 : ((((s[i]'hlt).toNat : Nat) : Int) == 13) = false := by rw [beq_eq_false_iff_ne]; omega
          have n9 : ((((s[i]'hlt).toNat : Nat) : Int) == 9) = false := by rw [beq_eq_false_iff_ne]; omega
          have l32 : ¬ (((s[i]'hlt).toNat : Nat) : Int) < 32 := by omega
          generalize (((s[i]'hlt).toNat : Nat) : Int) = xx at *
          clear hc hpz
          go_wp2_with (first
            | (go_at_call 15; refine hU.mono ?_; rintro e w2 ⟨rfl, hw2⟩; subst w2; clear hU)
            | (at_builtin; refine Lib.wpList_append_own_string _ rfl _ _ 47 9 rfl w.heap.size 5 i0 Tryz.underlying47 Tryz.underlying9 hi0 hz0 hz1 hz2 (.slice a acc.length c) acc.length (Lib.byteCells acc) rfl S.own pc rfl (by rw [HPZ.out]; unfold maxLen; omega) (by rw [HPZ.out]; omega) hbase ?_; intro v3 w3 ho3 hg3 _; have S3 := S.push ho3 hg3; obtain ⟨a3, c3, rfl⟩ := ownsRow_shape S3.own; have HS3 := hid S3; clear ho3 hg3 S3)
            | fail)
          go_roundw
          case rel => exact ⟨i + zz, m, acc ++ pc.data.toList, a3, c3, by first | rfl | (rw [List.length_append, show pc.data.toList.length = pc.size from Array.length_toList]), by omega, by omega, by go_num, by rw [List.length_append, show pc.data.toList.length = pc.size from Array.length_toList, HPZ.out]; omega, HS3.out, by rw [← HF.out, HM.out, HP.out, List.append_assoc]⟩
          case measure => simp [intOf]; omega
    · have e0 : ¬ (i : Int) < (s.size : Int) := by omega
      have HE : Hid (acc ++ [34] = quoteP s) := by
        show acc ++ [34] = quoteP s
        have := HF.out
        rw [quoteF_end hlt, List.append_nil] at this
        rw [this]
        rfl
      go_wp2_with (first
        | (at_builtin; refine wpList_append_src _ rfl _ _ 47 rfl w.heap.size 5 i0 _ 1 1 Tryz.underlying47 hi0 hz0 hz1 hz2 rfl (by decide) (.slice a acc.length c) acc.length _ rfl (S.own.alloc _) _ rfl 1 (Lib.byteCells [34]) (.inl ⟨_, 1, rfl, rfl, World.news_of_block (heap_alloc_new _ _)⟩) (by intro u hu; simp [Lib.byteCells] at hu; subst hu; rfl) (by unfold maxLen; omega) (by omega) (by rw [World.size_alloc]; omega) ?_; intro a3 c3 w3 ho3 hg3 _ _; have HS3 := hid (S.push2 (m := [34]) (Kept.refl _ _) ho3 hg3); have hcv : (convert 47 9 (.slice a3 (acc.length + 1) c3)).run Tryz.prog w3 = .ok (.string (mkB (acc ++ [34]))) w3 := HS3.out.str (by simp); rw [HE.out] at hcv; clear ho3 hg3)
        | fail)
      go_ret
      exact ⟨rfl, HS3.out.kept⟩

end Go.Proofs.YtdbplemcjnlfiaaGreatDoor
