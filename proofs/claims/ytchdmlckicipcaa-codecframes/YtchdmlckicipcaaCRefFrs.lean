/-
  The document's Frames: the places and the payloads.
-/
import Derived.Test.YtchdmlckicipcaaCRefUn
import Derived.Test.YtchdmlckicipcaaCFramesT
namespace Go.Proofs.Ytchdmlckicipcaa
open Go.RowKit

theorem infoInt : (Try.prog.info? 3).map (fun i => (i.zero, i.size, i.bytes)) = some (some (.int .i64 0), 1, 8) := by kernel_rfl
theorem infoSl : (Try.prog.info? 23).map (fun i => (i.zero, i.size, i.bytes)) = some (some (.slice none 0 0), 1, 24) := by kernel_rfl

theorem own_apart {w : World} {b b' n n' : Nat} {t t' : TypeId} {v v' : Value} {xs xs' : List Value} (h : w.ownsRow b t 1 v n xs) (h' : w.ownsRow b' t' 1 v' n' xs') (ht : t ≠ t') (k : Nat) (hk : v.ownBlock = some k) : v'.ownBlock ≠ some k := by
  intro hk'
  rcases h.2 with ⟨rfl, _⟩ | ⟨g, cap, cur, rfl, _, hg, _⟩
  · cases hk
  · rcases h'.2 with ⟨rfl, _⟩ | ⟨g', cap', cur', rfl, _, hg', _⟩
    · cases hk'
    · cases hk
      cases hk'
      rw [hg] at hg'
      simp at hg'
      exact ht hg'.2

theorem own_grown {w w' : World} {b b' n n' : Nat} {t t' : TypeId} {v v' : Value} {xs xs' : List Value} (h : w.ownsRow b t 1 v n xs) (h' : w.ownsRow b' t' 1 v' n' xs') (ht : t ≠ t') (hg : w.grownBy w' v'.ownBlock) : w'.ownsRow b t 1 v n xs :=
  ownsRow_block' h (fun k hk => hg.block k (h.lt k hk).2 (fun e => own_apart h h' ht k hk e.symm))

/-- The places and payloads found so far. -/
structure FsSt (w wr : World) (fs : List XP) (vs : List Value) (a4 : Option Addr) (c4 : Nat) (a5 : Option Addr) (c5 : Nat) : Prop where
  at_ : wr.ownsRow w.heap.size 3 1 (.slice a4 fs.length c4) fs.length (fs.map (fun x => .int .i64 (x.1 : Int)))
  rows : wr.ownsRow w.heap.size 23 1 (.slice a5 fs.length c5) fs.length vs
  each : ∀ (j : Nat) (x : XP), fs[j]? = some x → ∃ (a : Option Addr) (c : Nat), vs[j]? = some (Value.slice a x.2.length c) ∧ wr.ownsRow w.heap.size 5 1 (.slice a x.2.length c) x.2.length (x.2.map (Value.int .u8))
  kept : Kept (fun _ => False) w wr

theorem FsSt.new (w : World) : FsSt w w [] [] none 0 none 0 :=
  ⟨World.ownsRow_nil _ _ _ _, World.ownsRow_nil _ _ _ _, fun j x h => (by simp at h), Kept.refl _ _⟩

theorem FsSt.keep {w wr w1 : World} {fs : List XP} {vs : List Value} {a4 : Option Addr} {c4 : Nat} {a5 : Option Addr} {c5 : Nat} (S : FsSt w wr fs vs a4 c4 a5 c5) (K : Kept (fun _ => False) wr w1) : FsSt w w1 fs vs a4 c4 a5 c5 :=
  ⟨ownsRow_block' S.at_ (fun k hk => K.block k (S.at_.lt k hk).2 (fun h => h)), ownsRow_block' S.rows (fun k hk => K.block k (S.rows.lt k hk).2 (fun h => h)), fun j x h => by
    obtain ⟨a, c, h1, h2⟩ := S.each j x h
    exact ⟨a, c, h1, ownsRow_block' h2 (fun k hk => K.block k (h2.lt k hk).2 (fun h => h))⟩, S.kept.and K⟩

theorem FsSt.next {w wr w2 w4 : World} {fs : List XP} {vs : List Value} {a4 : Option Addr} {c4 : Nat} {a5 : Option Addr} {c5 : Nat} {i : Nat} {p : List Int} {a1 : Option Addr} {c1 : Nat} {b4 : Option Addr} {d4 : Nat} {b5 : Option Addr} {d5 : Nat} {o : Obj} (S : FsSt w wr fs vs a4 c4 a5 c5) (hp : wr.ownsRow w.heap.size 5 1 (.slice a1 p.length c1) p.length (p.map (Value.int .u8)))
    (row2 : w2.ownsRow w.heap.size 3 1 (.slice b4 (fs.length + 1) d4) (fs.length + 1) (fs.map (fun x => .int .i64 (x.1 : Int)) ++ [.int .i64 (i : Int)])) (hg2 : wr.grownBy w2 (Value.slice a4 fs.length c4).ownBlock)
    (row4 : w4.ownsRow w.heap.size 23 1 (.slice b5 (fs.length + 1) d5) (fs.length + 1) (vs ++ [.slice a1 p.length c1])) (hg4 : (w2.alloc o).grownBy w4 (Value.slice a5 fs.length c5).ownBlock) :
    FsSt w w4 (fs ++ [(i, p)]) (vs ++ [.slice a1 p.length c1]) b4 d4 b5 d5 := by
  have hne1 : 3 ≠ 23 := by decide
  have hne2 : 5 ≠ 3 := by decide
  have hne3 : 5 ≠ 23 := by decide
  have r2 : w2.ownsRow w.heap.size 23 1 (.slice a5 fs.length c5) fs.length vs := own_grown S.rows S.at_ (fun e => hne1 e.symm) hg2
  have r2a := r2.alloc o
  have hl : (fs ++ [(i, p)]).length = fs.length + 1 := by simp
  have u : ∀ {a c q xs}, wr.ownsRow w.heap.size 5 1 (.slice a q c) q xs → w4.ownsRow w.heap.size 5 1 (.slice a q c) q xs := fun h => own_grown ((own_grown h S.at_ hne2 hg2).alloc o) r2a hne3 hg4
  have hvl : vs.length = fs.length := by have := S.rows.1; simpa using this
  refine ⟨?_, ?_, ?_, ?_⟩
  · rw [hl, List.map_append]
    exact own_grown (row2.alloc o) r2a hne1 hg4
  · rw [hl]
    exact row4
  · intro j x h
    by_cases hj : j < fs.length
    · rw [List.getElem?_append_left hj] at h
      obtain ⟨a, c, h1, h2⟩ := S.each j x h
      exact ⟨a, c, by rw [List.getElem?_append_left (by omega)]; exact h1, u h2⟩
    · rw [List.getElem?_append_right (by omega)] at h
      obtain ⟨rfl, rfl⟩ : j = fs.length ∧ (i, p) = x := by
        have : j - fs.length = 0 := by
          rcases Nat.lt_or_ge (j - fs.length) 1 with h1 | h1
          · omega
          · rw [List.getElem?_eq_none (by simpa using h1)] at h
            cases h
        rw [this] at h
        exact ⟨by omega, by simpa using h⟩
      exact ⟨a1, c1, by rw [List.getElem?_append_right (by omega)]; simp [hvl], u hp⟩
  · have K2 : Kept (fun k => w.heap.size ≤ k) wr w2 := Kept.grown hg2 (fun k e => (S.at_.lt k e).1)
    have K4 : Kept (fun k => w.heap.size ≤ k) (w2.alloc o) w4 := Kept.grown hg4 (fun k e => (S.rows.lt k e).1)
    exact ((S.kept.trans K2 (fun _ h => .inr h)).and (Kept.alloc _ w2 o)).trans K4 (fun _ h => .inr h)

set_option maxRecDepth 100000 in
set_option maxHeartbeats 1000000 in
theorem xframes_any (w : World) (a : Option Addr) (m c : Nat) (raw : List Int) (B : BytesAt w a m c raw) (hm : m ≤ 1000000000) :
    Calls Try.prog 9 #[.slice a m c] w fun e w' => ∃ fs vs a4 c4 a5 c5, e = .returned (.tuple #[.slice a4 fs.length c4, .slice a5 fs.length c5]) ∧ TellsP raw 0 fs ∧ FsSt w w' fs vs a4 c4 a5 c5 := by
  obtain ⟨i1, hi1, hy0, hy1, hy2⟩ := info_parts infoInt
  obtain ⟨i2, hi2, hx0, hx1, hx2⟩ := info_parts infoSl
  have hlen := B.len
  have hcap := B.cap
  have S0 := FsSt.new w
  have HB : Hid _ := B
  clear B
  go_enter Try.func9, Try.ntmps9
  go_wp2
  go_loopw [4, 5, 6] (fun p4 p5 p6 wr => ∃ (fs : List XP) (vs : List Value) (a4 : Option Addr) (c4 : Nat) (a5 : Option Addr) (c5 : Nat) (i : Nat), p4 = .slice a4 fs.length c4 ∧ p5 = .slice a5 fs.length c5 ∧ p6 = .int .i64 i ∧ i ≤ m ∧ fs.length * 8 ≤ i ∧ (∀ r, TellsP raw i r → TellsP raw 0 (fs ++ r)) ∧ FsSt w wr fs vs a4 c4 a5 c5) (fun _ _ i _ => m - (Go.RowKit.intOf i).toNat)
  case atStart => exact ⟨[], [], none, 0, none, 0, 0, rfl, rfl, rfl, Nat.zero_le _, Nat.zero_le _, fun r h => h, S0⟩
  case round =>
    clear S0
    obtain ⟨fs, vs, a4, c4, a5, c5, i, rfl, rfl, rfl, hi, hfl, hpre, S⟩ := hrel
    have HS : Hid _ := S
    have HP : Hid _ := hpre
    clear hpre S
    by_cases him : i < m
    · have g1 : (i : Int) < (m : Int) := by omega
      have g3 : (0 : Int) ≤ (i : Int) := by omega
      have g4 : (i : Int) ≤ (c : Int) := by omega
      have g5 : (m : Int) ≤ (c : Int) := by omega
      have g6 : c ≠ i := by omega
      have Bw := HB.out.kept HS.out.kept (fun _ _ _ h => h)
      obtain ⟨b, o, rfl, _⟩ := Bw.at (j := 0) (by omega)
      have P := Bw.piece (i := i) (k := m - i) (by omega) ⟨b, o + i, none⟩ (.inl rfl) (c - i) (by omega)
      have e1 : (raw.drop i).take (m - i) = raw.drop i := List.take_of_length_le (by rw [List.length_drop]; omega)
      rw [e1] at P
      have hU := xunframe_any wr _ _ _ _ P (by omega)
      have hbs := Bw.byte
      clear P Bw e1
      cases hx : unfr (raw.drop i) with
      | none =>
        rw [hx] at hU
        have HX : Hid _ := hx
        clear hx
        go_wp2_with (first
          | (go_at_call 19; refine hU.mono ?_; rintro e w1 ⟨hp, K1⟩; obtain rfl := hp; clear hU)
          | fail)
        go_ret2
        exact ⟨fs, vs, a4, c4, a5, c5, rfl, by have := HP.out [] (.stop i HX.out); rwa [List.append_nil] at this, HS.out.keep K1⟩
      | some p =>
        rw [hx] at hU
        have hps := unfr_some hx
        rw [List.length_drop, hlen] at hps
        have HX : Hid _ := hx
        clear hx
        go_wp2_with (first
          | (go_at_call 19; refine hU.mono ?_; rintro e w1 ⟨hp, K1⟩; obtain ⟨a1, c1, rfl, ho1⟩ := hp; have S1 := HS.out.keep K1; have HS1 : Hid _ := S1; have HO1 : Hid (w1.ownsRow w.heap.size 5 1 (.slice a1 p.length c1) p.length (p.map (Value.int .u8))) := ownsRow_mono ho1 HS.out.kept.size; have rA := S1.at_.alloc (.cells #[.int .i64 (i : Int)] 3); have hbA : w.heap.size ≤ (w1.alloc (.cells #[.int .i64 (i : Int)] 3)).heap.size := (by have := S1.kept.size; simp; omega); clear hU ho1 S1)
          | (at_builtin; have _t := rA; refine wpList_append_src _ rfl _ _ 29 rfl w.heap.size 3 i1 (.int .i64 0) 1 8 Try.underlying29 hi1 hy0 hy1 hy2 rfl (by decide) (.slice a4 fs.length c4) fs.length _ rfl rA _ rfl 1 [.int .i64 (i : Int)] (.inl ⟨_, 1, rfl, rfl, World.news_of_block (heap_alloc_new w1 _)⟩) (by simp [Value.oneCell']) (by unfold maxLen; omega) (by omega) hbA ?_; intro b4 d4 w2 ho2 hg2 _ _; have hz2 : (w1.alloc (.cells #[.int .i64 (i : Int)] 3)).heap.size ≤ w2.heap.size := hg2.size; have rB := (own_grown (HS1.out.rows.alloc (.cells #[.int .i64 (i : Int)] 3)) rA (by decide) hg2).alloc (.cells #[.slice a1 p.length c1] 23); have hbB : w.heap.size ≤ (w2.alloc (.cells #[.slice a1 p.length c1] 23)).heap.size := (by simp; omega); have HO2 : Hid _ := ho2; have HG2 : Hid _ := hg2; clear rA ho2 hg2 hbA)
          | (at_builtin; refine wpList_append_src _ rfl _ _ 22 rfl w.heap.size 23 i2 (.slice none 0 0) 1 24 Try.underlying22 hi2 hx0 hx1 hx2 rfl (by decide) (.slice a5 fs.length c5) fs.length _ rfl rB _ rfl 1 [.slice a1 p.length c1] (.inl ⟨_, 1, rfl, rfl, World.news_of_block (heap_alloc_new w2 _)⟩) (by simp [Value.oneCell']) (by unfold maxLen; omega) (by omega) hbB ?_; intro b5 d5 w4 ho4 hg4 _ _; have HS4 : Hid _ := (HS1.out.keep (Kept.alloc _ _ _)).next (i := i) (World.ownsRow.alloc HO1.out _) HO2.out HG2.out ho4 hg4; clear ho4 hg4)
          | fail)
        go_roundw
        case rel => exact ⟨fs ++ [(i, p)], _, b4, d4, b5, d5, i + (8 + p.length), by simp, by simp, by simp, by omega, by simp; omega, fun r h => by rw [List.append_assoc]; exact HP.out _ (.go i p r HX.out h), HS4.out⟩
        case measure => simp [Go.RowKit.intOf]; omega
    · obtain rfl : i = m := by omega
      have g1 : ¬ (i : Int) < (i : Int) := by omega
      go_wp2
      go_ret2
      exact ⟨fs, vs, a4, c4, a5, c5, rfl, by have := HP.out [] (.stop i (by rw [List.drop_eq_nil_of_le (by omega)]; rfl)); rwa [List.append_nil] at this, HS.out⟩

end Go.Proofs.Ytchdmlckicipcaa
