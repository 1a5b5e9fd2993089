/-
  Text: what is written of a definition, whole.
-/
import Derived.Test.YtlholgpenpfpbaaGreatDoorB10
import Derived.Test.YtlholgpenpfpbaaGreatDoorB09
import Derived.Test.YtlholgpenpfpbaaGreatDoorB06
import Derived.Test.YtlholgpenpfpbaaGreatDoorB01
import Derived.Deep.RegionHeld3
import Derived.Deep.QuietTactic
import Derived.BigQuiet
namespace Go.Proofs.YtlholgpenpfpbaaGreatDoor
open Go.RowKit

theorem BSt.new {w w1 : World} {C : Array Value} (K : Kept (fun _ => False) (w.alloc (.cells C 24)) w1) : BSt w (w1.alloc (.cells #[.pointer none, .slice none 0 0] 41)) C w1.heap.size [] := by
  have hs := K.size
  rw [World.size_alloc] at hs
  have hb : w1.heap[w.heap.size]? = some (.cells C 24 (0, 0)) := (K.block _ (by rw [World.size_alloc]; omega) (fun h => h)).trans (heap_alloc_new _ _)
  refine ⟨.inl ⟨Nat.le_refl _, .slice none 0 0, heap_alloc_new _ _, World.ownsRowF_nil _ _ _ _, by simp [Value.ownBlock]⟩, ?_, ((Kept.alloc _ _ _).and K).and (Kept.alloc _ _ _), by omega, by rw [World.size_alloc]; omega⟩
  rw [Below.heap_alloc _ _ _ (by omega)]
  exact hb

theorem BSt.cells {w W : World} {u0 u1 : Value} {b : Nat} {l : List UInt8} (S : BSt w W #[u0, u1] b l) : W.cell? ⟨w.heap.size, 0, none⟩ = some u0 ∧ W.cell? ⟨w.heap.size, 1, none⟩ = some u1 := by
  constructor <;> simp [World.cell?, S.box]

theorem name_small64 {s : ByteArray} (h : nameP s = true) : s.size ≤ 64 := by
  unfold nameP madeP at h
  simp only [Bool.and_eq_true, decide_eq_true_eq] at h
  omega

theorem flow_small256 {s : ByteArray} (h : flowP s = true) : s.size ≤ 256 := by
  unfold flowP madeP at h
  simp only [Bool.and_eq_true, decide_eq_true_eq] at h
  omega

/-- The bytes of words. -/
def lenW (ws : List ByteArray) : Nat := (ws.map (fun s => s.size + 1)).sum

theorem joinTail_len (ws : List ByteArray) : (Lib.joinTail [32] (bytesW ws)).length = lenW ws := by
  induction ws with
  | nil => rfl
  | cons x t ih =>
    have e : Lib.joinTail [32] (bytesW (x :: t)) = [32] ++ (x.data.toList ++ Lib.joinTail [32] (bytesW t)) := by simp [Lib.joinTail, bytesW]
    rw [e, List.length_append, List.length_append, ih]
    simp [lenW]
    omega

theorem line_len (ws : List ByteArray) : (lineL [32] ws).length ≤ lenW ws := by
  unfold lineL
  cases ws with
  | nil => simp [bytesW, Lib.join_nil]
  | cons x t =>
    have e : bytesW (x :: t) = x.data.toList :: bytesW t := rfl
    rw [e, Lib.join_cons, List.length_append, joinTail_len]
    simp [lenW]

theorem itB_small {z : Int} (h0 : 0 ≤ z) (h1 : z ≤ 1000000) : (itB z).size ≤ 15 := by
  have h := (num_back h0 h1).1
  unfold numP madeP at h
  simp only [Bool.and_eq_true, decide_eq_true_eq] at h
  omega

theorem lenW_le {ws : List ByteArray} (h : ∀ s ∈ ws, s.size ≤ 256) : lenW ws ≤ 257 * ws.length := by
  induction ws with
  | nil => simp [lenW]
  | cons x t ih =>
    have := ih (fun s hs => h s (by simp [hs]))
    have hx := h x (by simp)
    have e : lenW (x :: t) = x.size + 1 + lenW t := by simp [lenW]
    rw [e, List.length_cons]
    omega

theorem words_small {n : Nd} (R : NdRight n) : ∀ s ∈ wordsW n, s.size ≤ 256 := by
  have hf := R.fits
  have hnm := R.named
  unfold namedP at hnm
  simp only [Bool.and_eq_true, Bool.or_eq_true, beq_iff_eq, bne_iff_ne] at hnm
  obtain ⟨⟨hn, ha⟩, ht⟩ := hnm
  have hdel : 0 ≤ n.delay ∧ n.delay ≤ 1000000 := by
    unfold fitsP at hf
    by_cases hd : (n.delay < 0 || n.delay > 1000000) = true
    · rw [if_pos hd] at hf; cases hf
    · simp at hd; exact ⟨hd.1, hd.2⟩
  have htr : n.kind = 1 → 0 ≤ n.tries ∧ n.tries ≤ 10 := by
    intro k1
    unfold fitsP at hf
    by_cases hd : (n.delay < 0 || n.delay > 1000000) = true
    · rw [if_pos hd] at hf; cases hf
    · rw [if_neg hd] at hf
      simp [k1] at hf
      omega
  have dw := itB_small hdel.1 hdel.2
  have lits : actB.size ≤ 256 ∧ timB.size ≤ 256 ∧ chiB.size ≤ 256 ∧ waiB.size ≤ 256 ∧ senB.size ≤ 256 ∧ triB.size ≤ 256 ∧ tmoB.size ≤ 256 ∧ aftB.size ≤ 256 := by decide
  obtain ⟨l1, l2, l3, l4, l5, l6, l7, l8⟩ := lits
  have nme : ∀ {s : ByteArray}, nameP s = true → s.size ≤ 256 := fun h => Nat.le_trans (name_small64 h) (by omega)
  intro s hs
  unfold wordsW at hs
  rw [List.mem_cons, List.mem_append] at hs
  rcases hs with rfl | hs | hs
  · exact nme hn
  · unfold kindW at hs
    by_cases k1 : n.kind = 1
    · have tw := itB_small (htr k1).1 (by have := (htr k1).2; omega)
      have harg : nameP n.arg = true := by rcases ha with h | h; · omega
                                           · exact h
      rw [if_pos k1] at hs
      simp only [List.cons_append, List.nil_append, List.mem_cons, List.mem_append] at hs
      rcases hs with rfl | rfl | hs | hs
      · exact l1
      · exact nme harg
      · split at hs
        · cases hs
        · simp only [List.mem_cons, List.not_mem_nil, or_false] at hs
          rcases hs with rfl | rfl
          · exact l6
          · omega
      · split at hs
        · cases hs
        · simp only [List.mem_cons, List.not_mem_nil, or_false] at hs
          rcases hs with rfl | rfl
          · exact l7
          · omega
    · rw [if_neg k1] at hs
      by_cases k2 : n.kind = 2
      · rw [if_pos k2] at hs
        simp only [List.mem_cons, List.not_mem_nil, or_false] at hs
        rcases hs with rfl | rfl
        · exact l2
        · omega
      · rw [if_neg k2] at hs
        have harg : nameP n.arg = true := by rcases ha with h | h; · exact absurd h k2
                                             · exact h
        by_cases k3 : n.kind = 3
        · rw [if_pos k3] at hs
          simp only [List.mem_cons, List.not_mem_nil, or_false] at hs
          rcases hs with rfl | rfl
          · exact l3
          · exact nme harg
        · rw [if_neg k3] at hs
          by_cases k4 : n.kind = 4
          · rw [if_pos k4] at hs
            simp only [List.mem_cons, List.not_mem_nil, or_false] at hs
            rcases hs with rfl | rfl
            · exact l4
            · exact nme harg
          · rw [if_neg k4] at hs
            by_cases k5 : n.kind = 5
            · rw [if_pos k5] at hs
              have hto : flowP n.to = true := by rcases ht with h | h; · exact absurd k5 h
                                                 · exact h
              simp only [List.mem_cons, List.not_mem_nil, or_false] at hs
              rcases hs with rfl | rfl | rfl
              · exact l5
              · exact flow_small256 hto
              · exact nme harg
            · rw [if_neg k5] at hs; cases hs
  · unfold aftW at hs
    split at hs
    · cases hs
    · rw [List.mem_cons] at hs
      rcases hs with rfl | hs
      · exact l8
      · exact nme (R.after s hs)

theorem words_few {n : Nd} (h : n.after.length ≤ 32) : (wordsW n).length ≤ 40 := by
  have h1 : (kindW n).length ≤ 6 := by
    unfold kindW
    repeat' split
    all_goals simp
  have h2 : (aftW n.after).length ≤ 33 := by
    unfold aftW
    split
    · simp
    · simp; omega
  unfold wordsW
  rw [List.length_cons, List.length_append]
  omega

/-- A node's line is short. -/
theorem node_line {n : Nd} (R : NdRight n) (h : n.after.length ≤ 32) : (lineL [32] (wordsW n)).length ≤ 10280 := by
  have h1 := line_len (wordsW n)
  have h2 := lenW_le (words_small R)
  have h3 := words_few h
  omega

/-- The text of the first nodes is not long. -/
theorem text_len {nm : ByteArray} (hnm : nameP nm = true) : ∀ (ns : List Nd), (∀ n ∈ ns, NdRight n ∧ n.after.length ≤ 32) → (textL [32] (linesW nm ns)).length ≤ 100 + 10281 * ns.length := by
  intro ns h
  have h0 : ∀ (ns : List Nd), (∀ n ∈ ns, NdRight n ∧ n.after.length ≤ 32) → (textL [32] (ns.map wordsW)).length ≤ 10281 * ns.length := by
    intro ns
    induction ns with
    | nil => intro _; simp [textL]
    | cons n t ih =>
      intro h
      have h1 := ih (fun x hx => h x (by simp [hx]))
      have h2 := node_line (h n (by simp)).1 (h n (by simp)).2
      rw [List.map_cons, textL_cons, List.length_append, List.length_cons, List.length_cons]
      omega
  have h1 := h0 ns h
  have h2 := line_len [wfB, nm]
  have h3 := name_small64 hnm
  have h4 : lenW [wfB, nm] = wfB.size + 1 + (nm.size + 1) := by simp [lenW]
  have h5 : wfB.size = 8 := rfl
  unfold linesW
  rw [textL_cons, List.length_append, List.length_cons]
  omega

theorem textL_snoc (sep : List UInt8) (ls : List (List ByteArray)) (ws : List ByteArray) : textL sep (ls ++ [ws]) = textL sep ls ++ (lineL sep ws ++ [10]) := by simp [textL]

theorem bytes_add (x y : ByteArray) : (x ++ y).data.toList = x.data.toList ++ y.data.toList := by
  rw [ByteArray.data_append]
  simp

theorem add_small {L : List UInt8} {J : ByteArray} (h : L.length ≤ 400000) (hJ : J.size ≤ 10280) : L.length + (J ++ ⟨#[10]⟩).size ≤ 100000000 := by
  rw [ByteArray.size_append]
  have : (⟨#[10]⟩ : ByteArray).size = 1 := rfl
  omega

set_option maxRecDepth 100000 in
set_option maxHeartbeats 4000000 in
theorem text_any (w : World) (name : ByteArray) (a : Option Addr) (n c : Nat) (ns : List Nd) (hN : NodesAt w a ns) (hl : ns.length = n) (T10 : Pow10 w) :
    Calls Tryz.prog 5 #[.agg #[.string name, .slice a n c]] w fun e w' => e = .returned (.string (textP name ns)) ∧ Kept (fun _ => False) w w' := by
  subst hl
  have K0 : Kept (fun _ => False) w (w.alloc (.cells #[.string name, .slice a ns.length c] 24)) := Kept.alloc _ _ _
  have hck := check_any (w.alloc (.cells #[.string name, .slice a ns.length c] 24)) name a ns.length c ns (hN.kept K0 (fun _ _ h => h)) rfl
  by_cases hc : (checkP name ns).2 = 0
  · obtain ⟨hnm, h32, h1, hns⟩ := check_right hc
    have hlen : ∀ k, k ≤ ns.length → (textL [32] (linesW name (ns.take k))).length ≤ 400000 := fun k hk => by
      have := text_len hnm (ns.take k) (fun x hx => hns x (List.mem_of_mem_take hx))
      rw [List.length_take] at this
      omega
    have hTP : textP name ns = mkB (textL [32] (linesW name ns)) := if_pos hc
    rw [hc] at hck
    generalize (checkP name ns).1 = y at *
    have HTP : Hid (textP name ns = mkB (textL [32] (linesW name ns))) := hTP
    have HLen : Hid (∀ k, k ≤ ns.length → (textL [32] (linesW name (ns.take k))).length ≤ 400000) := hlen
    have HNs : Hid (∀ n ∈ ns, NdRight n ∧ n.after.length ≤ 32) := hns
    have HN : Hid (NodesAt w a ns) := hN
    have HP : Hid (Pow10 w) := T10
    have hn64 := name_small64 hnm
    have hfirst : ((⟨#[119, 111, 114, 107, 102, 108, 111, 119, 32]⟩ : ByteArray) ++ name ++ ⟨#[10]⟩).data.toList = textL [32] (linesW name (ns.take 0)) := by
      rw [bytes_add, bytes_add]
      simp [textL, linesW, lineL, bytesW, Lib.join, List.intercalate, wfB]
    have HF : Hid (((⟨#[119, 111, 114, 107, 102, 108, 111, 119, 32]⟩ : ByteArray) ++ name ++ ⟨#[10]⟩).data.toList = textL [32] (linesW name (ns.take 0))) := hfirst
    have hsz0 : ((⟨#[119, 111, 114, 107, 102, 108, 111, 119, 32]⟩ : ByteArray) ++ name ++ ⟨#[10]⟩).size ≤ 100 := by
      rw [ByteArray.size_append, ByteArray.size_append]
      show 9 + name.size + 1 ≤ 100
      omega
    have HS0 : Hid (((⟨#[119, 111, 114, 107, 102, 108, 111, 119, 32]⟩ : ByteArray) ++ name ++ ⟨#[10]⟩).size ≤ 100) := hsz0
    clear hc hTP hlen hns hN T10 hfirst hsz0 hnm K0 h1
    go_enter Tryz.func5, Tryz.ntmps5
    go_wp2_with (first
      | (go_at_call 10; refine hck.mono ?_; rintro e w1 ⟨rfl, K1⟩; clear hck; have S : Hid (BSt w (w1.alloc (.cells #[.pointer none, .slice none 0 0] 41)) #[.string name, .slice a ns.length c] w1.heap.size []) := BSt.new K1; obtain ⟨d0, d1⟩ := S.out.cells)
      | (go_at_call 11; refine (write_any S.out _ (by have := HS0.out; simp only [List.length_nil]; omega)).mono ?_; rintro e w2 ⟨rfl, S2⟩; rw [List.nil_append, HF.out] at S2; clear S d0 d1; have S : Hid (BSt w w2 #[.string name, .slice a ns.length c] w1.heap.size (textL [32] (linesW name (ns.take 0)))) := S2; clear S2; obtain ⟨d0, d1⟩ := S.out.cells)
      | fail)
    go_loopw [23] (fun q wr => ∃ (k : Nat), k ≤ ns.length ∧ q = .int .i64 k ∧ BSt w wr #[.string name, .slice a ns.length c] w1.heap.size (textL [32] (linesW name (ns.take k)))) (fun q _ => ns.length - (intOf q).toNat)
    case atStart => exact ⟨0, Nat.zero_le _, rfl, S.out⟩
    case round =>
      obtain ⟨k, hk, rfl, S1⟩ := hrel
      clear S d0 d1
      by_cases hlt : k < ns.length
      · obtain ⟨b, o, av, cv, hae, hT, c0, c1, c2, c3, c4, c5, c6⟩ := (HN.out.kept S1.kept (fun _ _ h => h)).at hlt
        have R := HNs.out _ (List.getElem_mem hlt)
        have hok := HN.out.1 _ (List.getElem_mem hlt)
        have hlen := HLen.out k hk
        have hnx : textL [32] (linesW name (ns.take (k + 1))) = textL [32] (linesW name (ns.take k)) ++ (lineL [32] (wordsW ns[k]) ++ [10]) := by
          rw [← textL_snoc, take_snoc hlt]
          unfold linesW
          rw [List.map_append]
          rfl
        have hln := node_line R.1 R.2
        have hfw := words_few R.2
        have e0 : (k : Int) < (ns.length : Int) := by omega
        have hW := written_any (wr.alloc (.cells #[.string (ns[k]).name, .int .i64 (ns[k]).kind, .string (ns[k]).arg, .string (ns[k]).to, .int .i64 (ns[k]).delay, .int .i64 (ns[k]).tries, .slice av (ns[k]).after.length cv] 35)) ns[k] av cv (hT.kept (Kept.alloc (fun _ => False) _ _) (fun _ _ h => h)) hok.few (HP.out.kept (S1.kept.and (Kept.alloc _ _ _))) hok.delay hok.tries R.1
        have S : Hid (BSt w wr #[.string name, .slice a ns.length c] w1.heap.size (textL [32] (linesW name (ns.take k)))) := S1
        have HX : Hid (textL [32] (linesW name (ns.take (k + 1))) = textL [32] (linesW name (ns.take k)) ++ (lineL [32] (wordsW ns[k]) ++ [10])) := hnx
        clear S1 hnx hok R hT
        generalize ns[k] = x at *
        generalize hws : wordsW x = ws at *
        have hne : ws ≠ [] := by rw [← hws]; simp [wordsW]
        have hsz : (mkB (lineL [32] ws)).size ≤ 10280 := by rw [mkB_size]; exact hln
        have HL : Hid ((textL [32] (linesW name (ns.take k))).length ≤ 400000) := hlen
        have HLn : Hid ((lineL [32] ws).length ≤ 10280) := hln
        have HFw : Hid (ws.length ≤ 40) := hfw
        have HNe : Hid (ws ≠ []) := hne
        have hjm := mkB_list (lineL [32] ws)
        clear hws hne hlen hln hfw
        generalize hL : textL [32] (linesW name (ns.take k)) = L at *
        clear hL
        subst hae
        go_wp2_with (first
          | (go_at_call 13; refine hW.mono ?_; rintro e w3 ⟨aw, cw, rfl, ow, Kw⟩; have S3 : Hid (BSt w w3 #[.string name, .slice (some ⟨b, o, none⟩) ns.length c] w1.heap.size L) := S.out.call ((Kept.alloc _ _ _).and Kw); have hJ := join_any w3 ws aw cw _ HNe.out ow (Nat.le_trans HFw.out (by omega)) (Nat.le_trans HLn.out (by omega)); clear hW ow Kw S; generalize mkB (lineL [32] ws) = J at *; have HJm : Hid (J.data.toList = lineL [32] ws) := hjm; have HJs : Hid (J.size ≤ 10280) := hsz; clear hjm)
          | (go_at_call 12; refine hJ.mono ?_; rintro e w4 ⟨rfl, K4⟩; have S4 : Hid (BSt w w4 #[.string name, .slice (some ⟨b, o, none⟩) ns.length c] w1.heap.size L) := S3.out.call K4; clear hJ K4 S3)
          | (go_at_call 11; have hS2 := write_any S4.out (J ++ ⟨#[10]⟩) (add_small HL.out HJs.out); refine hS2.mono ?_; clear hS2; rintro e w5 ⟨rfl, S5⟩; rw [bytes_add, HJm.out] at S5; clear S4)
          | fail)
        go_roundw
        case rel =>
          refine ⟨k + 1, by omega, by go_num, ?_⟩
          rw [HX.out]
          exact S5
        case measure => simp [intOf]; omega
      · have hke : k = ns.length := by omega
        subst hke
        have e0 : ¬ (ns.length : Int) < (ns.length : Int) := by omega
        have S : Hid (BSt w wr #[.string name, .slice a ns.length c] w1.heap.size (textL [32] (linesW name (ns.take ns.length)))) := S1
        clear S1
        go_wp2_with (first
          | (go_at_call 14; refine (string_any S.out).mono ?_; rintro e w5 ⟨rfl, K5⟩)
          | fail)
        go_ret
        refine ⟨?_, K5⟩
        rw [HTP.out]
        rfl
  · have e1 : ((checkP name ns).2 != 0) = true := by simp [hc]
    have HT : Hid (textP name ns = ⟨#[]⟩) := if_neg hc
    generalize (checkP name ns).2 = z at *
    generalize (checkP name ns).1 = y at *
    clear hc hN T10
    go_enter Tryz.func5, Tryz.ntmps5
    go_wp2_with (first
      | (go_at_call 10; refine hck.mono ?_; rintro e w1 ⟨rfl, K1⟩; clear hck)
      | fail)
    go_ret
    exact ⟨by rw [HT.out]; rfl, K0.and K1⟩

end Go.Proofs.YtlholgpenpfpbaaGreatDoor

/-
  The document's digits: a number's text.
-/
namespace Go.Proofs.YtlholgpenpfpbaaGreatDoor
open Go.RowKit

theorem dec_step {u : Nat} (h : ¬ u < 10) : Lib.decDigits u = Lib.decDigits (u / 10) ++ [UInt8.ofNat (48 + u % 10)] := by
  conv => lhs; rw [Lib.decDigits, dif_neg h]

theorem dec_last {u : Nat} (h : u < 10) : Lib.decDigits u = [UInt8.ofNat (48 + u % 10)] := by
  rw [Lib.decDigits, dif_pos h, Nat.mod_eq_of_lt h]

set_option maxRecDepth 100000 in
set_option maxHeartbeats 2000000 in
theorem digits_any (w : World) (n : Nat) (hn : n ≤ 1000000) :
    Calls Tryz.prog 16 #[.int .i64 n] w fun e w' => e = .returned (.string (itB n)) ∧ Kept (fun _ => False) w w' := by
  have hIt : itB (n : Int) = mkB (Lib.decDigits n) := by unfold itB; rw [show Lib.itoa (n : Int) = Lib.decDigits n by unfold Lib.itoa; rw [if_neg (by omega)]; simp]
  have HIt : Hid (itB (n : Int) = mkB (Lib.decDigits n)) := hIt
  have hlen := dec_short n (by omega)
  clear hIt
  go_enter Tryz.func16, Tryz.ntmps16
  go_wp2_with fail
  go_loopw [0, 3] (fun q p wr => ∃ (u : Nat) (s : ByteArray), u ≤ n ∧ q = .int .i64 u ∧ p = .string s ∧ Lib.decDigits u ++ s.data.toList = Lib.decDigits n ∧ Kept (fun _ => False) w wr) (fun q _ _ => (intOf q).toNat)
  case atStart => exact ⟨n, ⟨#[]⟩, Nat.le_refl _, rfl, rfl, by simp, Kept.refl _ _⟩
  case round =>
    obtain ⟨u, s, hu, rfl, rfl, hs, K⟩ := hrel
    have HS : Hid (Lib.decDigits u ++ s.data.toList = Lib.decDigits n) := hs
    have hsz : s.size ≤ 15 := by
      have := congrArg List.length hs
      rw [List.length_append] at this
      have h2 : s.data.toList.length = s.size := by simp
      omega
    have HK : Hid (Kept (fun _ => False) w wr) := K
    clear hs K
    have hcv : (convert 39 9 (.slice (some ⟨wr.heap.size, 0, none⟩) 1 1)).run Tryz.prog (wr.alloc (.cells #[.int .u8 (48 + (u : Int) % 10)] 5)) = .ok (.string (mkB [UInt8.ofNat (48 + u % 10)])) (wr.alloc (.cells #[.int .u8 (48 + (u : Int) % 10)] 5)) := by
      have e : (48 + (u : Int) % 10) = (((UInt8.ofNat (48 + u % 10)).toNat : Nat) : Int) := by
        rw [UInt8.toNat_ofNat']
        omega
      refine run_convert_bytes_back _ 39 9 5 ⟨wr.heap.size, 0, none⟩ 1 [UInt8.ofNat (48 + u % 10)] Tryz.underlying39 Tryz.underlying5 Tryz.underlying9 ?_
      intro j hj
      obtain rfl : j = 0 := by simp at hj; omega
      unfold World.cell?
      rw [show (Addr.add ⟨wr.heap.size, 0, none⟩ 0) = ⟨wr.heap.size, 0, none⟩ from rfl, heap_alloc_new]
      simp only [List.getElem_cons_zero, ← e]
      rfl
    have hsz1 : (mkB [UInt8.ofNat (48 + u % 10)]).size ≤ 1 := by rw [mkB_size]; simp
    by_cases h10 : u < 10
    · have e1 : ((u : Int) / 10 == 0) = true := by simp; omega
      have HE : Hid (mkB [UInt8.ofNat (48 + u % 10)] ++ s = itB (n : Int)) := by
        show _ = _
        rw [HIt.out, ← HS.out, dec_last h10, ← mkB_data (mkB [UInt8.ofNat (48 + u % 10)] ++ s), ByteArray.data_append]
        simp [mkB]
      generalize mkB [UInt8.ofNat (48 + u % 10)] = dg at *
      go_wp2_with fail
      go_ret
      rw [← HE.out]
      exact ⟨rfl, HK.out.and (Kept.alloc _ _ _)⟩
    · have e1 : ((u : Int) / 10 == 0) = false := by simp; omega
      have HS2 : Hid (Lib.decDigits (u / 10) ++ (mkB [UInt8.ofNat (48 + u % 10)] ++ s).data.toList = Lib.decDigits n) := by
        show _ = _
        rw [← HS.out, dec_step h10, ByteArray.data_append]
        simp [mkB]
      generalize mkB [UInt8.ofNat (48 + u % 10)] = dg at *
      go_wp2_with fail
      go_roundw
      case rel => exact ⟨u / 10, dg ++ s, by omega, by go_num, rfl, HS2.out, HK.out.and (Kept.alloc _ _ _)⟩
      case measure => simp [intOf]; omega

end Go.Proofs.YtlholgpenpfpbaaGreatDoor

/-
  A text with each blank doubled, and a remark and an empty line behind some of its lines, says the same. Nothing here speaks of a program.
-/
namespace Go.Proofs.YtlholgpenpfpbaaGreatDoor
open Go.RowKit

/-- A remark's text: without line ends, cut. -/
def plainP (s : ByteArray) : List UInt8 := (s.data.toList.take 40).filter (fun b => b != 10)

def wideK (rem : Nat → ByteArray) (m : Nat) : List UInt8 → Nat → List UInt8
  | [], _ => []
  | b :: t, k => b :: ((if b = 32 then [32] else []) ++ (if b = 10 ∧ k < m then [32, 32, 35] ++ (plainP (rem k) ++ ([10, 32, 10] ++ wideK rem m t (k + 1))) else wideK rem m t k))

theorem wideK_blank (rem : Nat → ByteArray) (m : Nat) (t : List UInt8) (k : Nat) : wideK rem m (32 :: t) k = [32, 32] ++ wideK rem m t k := by
  rw [wideK, if_pos rfl, if_neg (by simp)]
  rfl

theorem wideK_end (rem : Nat → ByteArray) {m : Nat} (t : List UInt8) {k : Nat} (h : k < m) : wideK rem m (10 :: t) k = [10] ++ ([32, 32, 35] ++ (plainP (rem k) ++ ([10, 32, 10] ++ wideK rem m t (k + 1)))) := by
  rw [wideK, if_neg (by simp), if_pos ⟨rfl, h⟩]
  rfl

theorem wideK_other (rem : Nat → ByteArray) (m : Nat) (t : List UInt8) (k : Nat) {b : UInt8} (h1 : b ≠ 32) (h2 : ¬ (b = 10 ∧ k < m)) : wideK rem m (b :: t) k = [b] ++ wideK rem m t k := by
  rw [wideK, if_neg h1, if_neg h2]
  rfl

/-- Blanks doubled. -/
def dbl (l : List UInt8) : List UInt8 := l.flatMap (fun b => if b = 32 then [32, 32] else [b])

theorem dbl_append (a b : List UInt8) : dbl (a ++ b) = dbl a ++ dbl b := by simp [dbl]
theorem dbl_word {w : List UInt8} (h : ∀ b ∈ w, b ≠ 32) : dbl w = w := by
  induction w with
  | nil => rfl
  | cons b t ih =>
    have h1 := h b (by simp)
    have h2 := ih (fun x hx => h x (by simp [hx]))
    unfold dbl at h2 ⊢
    rw [List.flatMap_cons, if_neg h1, h2]
    rfl

theorem dbl_tail : ∀ {ws : List (List UInt8)}, (∀ w ∈ ws, WordOk w) → dbl (Lib.joinTail [32] ws) = Lib.joinTail [32, 32] ws
  | [], _ => rfl
  | x :: ws, h => by
    have e1 : Lib.joinTail [32] (x :: ws) = [32] ++ (x ++ Lib.joinTail [32] ws) := by simp [Lib.joinTail]
    have e2 : Lib.joinTail [32, 32] (x :: ws) = [32, 32] ++ (x ++ Lib.joinTail [32, 32] ws) := by simp [Lib.joinTail]
    rw [e1, e2, dbl_append, dbl_append, dbl_tail (fun w hw => h w (by simp [hw])), dbl_word (fun b hb => ((h x (by simp)).2.1 b hb).1)]
    rfl

theorem dbl_line {ws : List ByteArray} (h : ∀ w ∈ bytesW ws, WordOk w) : dbl (lineL [32] ws) = lineL [32, 32] ws := by
  unfold lineL
  cases hw : bytesW ws with
  | nil => rfl
  | cons x t =>
    rw [hw] at h
    rw [Lib.join_cons, Lib.join_cons, dbl_append, dbl_word (fun b hb => ((h x (by simp)).2.1 b hb).1), dbl_tail (fun w hw => h w (by simp [hw]))]

theorem wideK_line (rem : Nat → ByteArray) (m : Nat) (r : List UInt8) (k : Nat) : ∀ (l : List UInt8), (∀ b ∈ l, b ≠ 10) → wideK rem m (l ++ r) k = dbl l ++ wideK rem m r k
  | [], _ => rfl
  | b :: l, h => by
    have ih := wideK_line rem m r k l (fun x hx => h x (by simp [hx]))
    have hb := h b (by simp)
    by_cases h32 : b = 32
    · subst h32
      rw [List.cons_append, wideK_blank, ih]
      simp [dbl]
    · rw [List.cons_append, wideK_other rem m _ k h32 (fun hh => hb hh.1), ih]
      simp [dbl, h32]

theorem plain_noNl (s : ByteArray) : ∀ b ∈ plainP s, b ≠ 10 := by
  intro b hb
  unfold plainP at hb
  have := (List.mem_filter.1 hb).2
  simpa using this

theorem blank_silent : rSilent (wordsP (mkB [32]), false) = true := by rw [wordsP_split]; rfl
theorem blanks_silent : rSilent (wordsP (mkB [32, 32]), false) = true := by rw [wordsP_split]; rfl
theorem remark_silent (p : List UInt8) : rSilent (wordsP (mkB ([32, 32, 35] ++ p)), false) = true := by
  rw [wordsP_split]
  obtain ⟨w, r, e⟩ := splitW_first p 35 []
  have e2 : splitW ([32, 32, 35] ++ p) [] = splitW p [35] := by
    show splitW (32 :: 32 :: 35 :: p) [] = _
    rw [splitW, if_pos rfl, if_pos rfl, splitW, if_pos rfl, if_pos rfl, splitW, if_neg (by decide)]
    rfl
  rw [e2, e, List.map_cons]
  unfold rSilent
  simp only [mkB_list, List.headD_cons]
  rfl

theorem wide_says (rem : Nat → ByteArray) (m : Nat) : ∀ (ls : List (List ByteArray)) (k : Nat), (∀ ws ∈ ls, LineOk ws) → saysL (linesP (mkB (wideK rem m (textL [32] ls) k))) = ls
  | [], k, _ => rfl
  | ws :: ls, k, h => by
    have hw := h ws (by simp)
    have hl := line_noNl (sep := [32]) (by simp) hw
    have hl2 := line_noNl (sep := [32, 32]) (by simp) hw
    have e := line_words (sep := [32, 32]) (by simp) (by simp) hw [] (by simp)
    rw [List.nil_append] at e
    rw [textL_cons, wideK_line rem m _ k _ hl, dbl_line hw.2]
    by_cases hk : k < m
    · rw [wideK_end rem _ hk]
      have hp := plain_noNl (rem k)
      have hr : ∀ b ∈ [32, 32, 35] ++ plainP (rem k), b ≠ (10 : UInt8) := by
        intro b hb
        rcases List.mem_append.1 hb with hb | hb
        · simp at hb; rcases hb with rfl | rfl <;> decide
        · exact hp b hb
      show saysL (linesP (mkB (lineL [32, 32] ws ++ 10 :: ([32, 32, 35] ++ (plainP (rem k) ++ ([10, 32, 10] ++ wideK rem m (textL [32] ls) (k + 1))))))) = ws :: ls
      rw [linesP_line _ _ hl2, saysL_says (by rw [e]; exact line_loud hw), e]
      rw [← List.append_assoc]
      show ws :: saysL (linesP (mkB (([32, 32, 35] ++ plainP (rem k)) ++ 10 :: ([32] ++ 10 :: wideK rem m (textL [32] ls) (k + 1))))) = ws :: ls
      rw [linesP_line _ _ hr, saysL_silent (remark_silent _), linesP_line _ _ (by simp), saysL_silent blank_silent, wide_says rem m ls (k + 1) (fun x hx => h x (by simp [hx]))]
    · rw [wideK_other rem m _ k (by decide) (fun hh => hk hh.2)]
      show saysL (linesP (mkB (lineL [32, 32] ws ++ 10 :: wideK rem m (textL [32] ls) k))) = ws :: ls
      rw [linesP_line _ _ hl2, saysL_says (by rw [e]; exact line_loud hw), e, wide_says rem m ls k (fun x hx => h x (by simp [hx]))]

theorem wide_parse {nm : ByteArray} {ns : List Nd} (hc : (checkP nm ns).2 = 0) (rem : Nat → ByteArray) (m : Nat) (hsz : (mkB ([32, 32, 10] ++ wideK rem m (textP nm ns).data.toList 0)).size ≤ 16384) : parseP (mkB ([32, 32, 10] ++ wideK rem m (textP nm ns).data.toList 0)) = (some (nm, ns), 0, 0) := by
  refine says_parse hc hsz ?_
  have e : (textP nm ns).data.toList = textL [32] (linesW nm ns) := by unfold textP; rw [if_pos hc, mkB_list]
  have e2 : ∀ X : List UInt8, [32, 32, 10] ++ X = [32, 32] ++ 10 :: X := fun X => rfl
  rw [e, e2, linesP_line _ _ (by simp), saysL_silent blanks_silent]
  exact wide_says rem m (linesW nm ns) 0 (lines_ok hc)

/-- How far the text has been gone through. -/
structure WdSt (rem : Nat → ByteArray) (m : Nat) (s : ByteArray) (i k : Nat) (acc : ByteArray) : Prop where
  is : acc.data.toList ++ wideK rem m (s.data.toList.drop i) k = wideK rem m s.data.toList 0
  few : acc.size ≤ 2 * i + 50 * k
  le : k ≤ m

theorem WdSt.zero (rem : Nat → ByteArray) (m : Nat) (s : ByteArray) : WdSt rem m s 0 0 ⟨#[]⟩ := ⟨rfl, Nat.zero_le _, Nat.zero_le _⟩

theorem drop_byte {s : ByteArray} {i : Nat} (h : i < s.size) : s.data.toList.drop i = s.get! i :: s.data.toList.drop (i + 1) := by
  rw [List.drop_eq_getElem_cons (by simpa using h)]
  have := get_list h
  rw [List.getElem?_eq_getElem (by simpa using h)] at this
  rw [Option.some.inj this]

theorem one_byte {s : ByteArray} {i : Nat} (h : i < s.size) : (s.extract i (i + 1)).data.toList = [s.get! i] := by
  rw [extract_list, drop_byte h, show i + 1 - i = 1 by omega]
  rfl

theorem add_list (x y : ByteArray) : (x ++ y).data.toList = x.data.toList ++ y.data.toList := by
  rw [ByteArray.data_append]
  simp

theorem plain_len (s : ByteArray) : (plainP s).length ≤ 40 := by
  unfold plainP
  have h1 := List.length_filter_le (fun b => b != 10) (s.data.toList.take 40)
  rw [List.length_take] at h1
  omega

theorem WdSt.blank {rem : Nat → ByteArray} {m : Nat} {s : ByteArray} {i k : Nat} {acc : ByteArray} (S : WdSt rem m s i k acc) (hi : i < s.size) (hb : s.get! i = 32) : WdSt rem m s (i + 1) k (acc ++ s.extract i (i + 1) ++ ⟨#[32]⟩) := by
  refine ⟨?_, ?_, S.le⟩
  · have h := S.is
    rw [drop_byte hi, hb, wideK_blank] at h
    rw [add_list, add_list, one_byte hi, hb, List.append_assoc, List.append_assoc]
    exact h
  · have h := S.few
    rw [ByteArray.size_append, ByteArray.size_append, ByteArray.size_extract]
    have : (⟨#[32]⟩ : ByteArray).size = 1 := rfl
    omega

theorem WdSt.other {rem : Nat → ByteArray} {m : Nat} {s : ByteArray} {i k : Nat} {acc : ByteArray} (S : WdSt rem m s i k acc) (hi : i < s.size) (h1 : s.get! i ≠ 32) (h2 : ¬ (s.get! i = 10 ∧ k < m)) : WdSt rem m s (i + 1) k (acc ++ s.extract i (i + 1)) := by
  refine ⟨?_, ?_, S.le⟩
  · have h := S.is
    rw [drop_byte hi, wideK_other rem m _ k h1 h2] at h
    rw [add_list, one_byte hi, List.append_assoc]
    exact h
  · have h := S.few
    rw [ByteArray.size_append, ByteArray.size_extract]
    omega

theorem WdSt.end {rem : Nat → ByteArray} {m : Nat} {s : ByteArray} {i k : Nat} {acc : ByteArray} (S : WdSt rem m s i k acc) (hi : i < s.size) (hb : s.get! i = 10) (hk : k < m) : WdSt rem m s (i + 1) (k + 1) (acc ++ s.extract i (i + 1) ++ ⟨#[32, 32, 35]⟩ ++ mkB (plainP (rem k)) ++ ⟨#[10, 32, 10]⟩) := by
  refine ⟨?_, ?_, hk⟩
  · have h := S.is
    rw [drop_byte hi, hb, wideK_end rem _ hk] at h
    rw [add_list, add_list, add_list, add_list, one_byte hi, hb, mkB_list, List.append_assoc, List.append_assoc, List.append_assoc, List.append_assoc]
    exact h
  · have h := S.few
    have h4 := plain_len (rem k)
    rw [ByteArray.size_append, ByteArray.size_append, ByteArray.size_append, ByteArray.size_append, ByteArray.size_extract, mkB_size]
    have : (⟨#[32, 32, 35]⟩ : ByteArray).size = 3 := rfl
    have : (⟨#[10, 32, 10]⟩ : ByteArray).size = 3 := rfl
    omega

theorem WdSt.done {rem : Nat → ByteArray} {m : Nat} {s : ByteArray} {i k : Nat} {acc : ByteArray} (S : WdSt rem m s i k acc) (hi : s.size ≤ i) : (⟨#[32, 32, 10]⟩ : ByteArray) ++ acc = mkB ([32, 32, 10] ++ wideK rem m s.data.toList 0) := by
  have h := S.is
  rw [List.drop_of_length_le (by simpa using hi)] at h
  have h2 : acc.data.toList = wideK rem m s.data.toList 0 := by rw [← h]; simp [wideK]
  rw [← mkB_data ((⟨#[32, 32, 10]⟩ : ByteArray) ++ acc), add_list, h2]

end Go.Proofs.YtlholgpenpfpbaaGreatDoor

/-
  The reference's names: named, Name, Flow.
-/
namespace Go.Proofs.YtlholgpenpfpbaaGreatDoor
open Go.RowKit

/-- A sign that a name may hold. -/
def chk (slash : Bool) (x : Int) : Bool := (decide (97 ≤ x) && decide (x ≤ 122)) || (decide (65 ≤ x) && decide (x ≤ 90)) || (decide (48 ≤ x) && decide (x ≤ 57)) || decide (x = 46) || decide (x = 45) || decide (x = 95) || (decide (x = 47) && slash)

theorem chk_letters (c : UInt8) : lettersB.data.toList.contains c = chk false ((c.toNat : Nat) : Int) := by
  have h : (List.range 256).all (fun n => lettersB.data.toList.contains n.toUInt8 == chk false (n : Int)) = true := by kernel_rfl
  have := List.all_eq_true.1 h c.toNat (List.mem_range.2 c.toNat_lt)
  simpa using this

theorem chk_flows (c : UInt8) : flowsB.data.toList.contains c = chk true ((c.toNat : Nat) : Int) := by
  have h : (List.range 256).all (fun n => flowsB.data.toList.contains n.toUInt8 == chk true (n : Int)) = true := by kernel_rfl
  have := List.all_eq_true.1 h c.toNat (List.mem_range.2 c.toNat_lt)
  simpa using this

def namP (s : ByteArray) (slash : Bool) (most : Int) : Bool := decide (1 ≤ s.size) && decide ((s.size : Int) ≤ most) && s.data.toList.all (fun c => chk slash ((c.toNat : Nat) : Int))

theorem nam_name (s : ByteArray) : namP s false 64 = nameP s := by
  unfold namP nameP madeP
  simp only [chk_letters]

theorem nam_flow (s : ByteArray) : namP s true 256 = flowP s := by
  unfold namP flowP madeP
  simp only [chk_flows]

theorem cls (x : Int) : x = 45 ∨ x = 46 ∨ x = 47 ∨ x = 95 ∨ (97 ≤ x ∧ x ≤ 122) ∨ (65 ≤ x ∧ x ≤ 90) ∨ (48 ≤ x ∧ x ≤ 57) ∨ x < 45 ∨ (58 ≤ x ∧ x ≤ 64) ∨ (91 ≤ x ∧ x ≤ 96 ∧ x ≠ 95) ∨ 123 ≤ x := by omega

set_option maxRecDepth 100000 in
set_option maxHeartbeats 8000000 in
theorem named_ref (w : World) (s : ByteArray) (slash : Bool) (most : Int) (hs : s.size ≤ maxLen) :
    Calls Tryz.prog 48 #[.string s, .bool slash, .int .i64 most] w fun e w' => e = .returned (.bool (namP s slash most)) ∧ w' = w := by
  have hM : s.size ≤ 9223372036854775807 := Nat.le_trans hs (by decide)
  clear hs
  go_enter Tryz.func48, Tryz.ntmps48
  go_wp2
  go_loopw [7, 8] (fun i _ wr => ∃ (k : Nat), k ≤ s.size ∧ i = .int .i64 k ∧ wr = w ∧ (s.data.toList.take k).all (fun c => chk slash ((c.toNat : Nat) : Int)) = true) (fun i _ _ => s.size - (intOf i).toNat)
  case atStart => exact ⟨0, Nat.zero_le _, rfl, rfl, rfl⟩
  case round =>
    obtain ⟨k, hk, rfl, hwr, hall⟩ := hrel
    subst hwr
    by_cases hlt : k < s.size
    · have hix : ∀ W, (Instr.index 9 (.string s) (.int .i64 (k : Int))).run Tryz.prog W = .ok (.int .u8 (((s[k]'hlt).toNat : Nat) : Int)) W := fun W => by
        rw [run_index_string W _ _ _ _ Tryz.underlying9]
        rw [dif_pos ⟨by omega, by omega⟩]
        simp
      have hnx := all_next s (fun c => chk slash ((c.toNat : Nat) : Int)) hlt
      rw [hall, Bool.true_and] at hnx
      have e0 : (k : Int) < (s.size : Int) := by omega
      generalize (((s[k]'hlt).toNat : Nat) : Int) = x at *
      have HA : Hid ((s.data.toList.take (k + 1)).all (fun c => chk slash ((c.toNat : Nat) : Int)) = chk slash x) := hnx
      clear hnx hall
      rcases cls x with h | h | h | h | h | h | h | h | h | h | h
      · subst h
        go_wp2
        go_roundw
        case rel => exact ⟨k + 1, by omega, by go_num, trivial, by rw [HA.out]; cases slash <;> rfl⟩
        case measure => simp [intOf]; omega
      · subst h
        go_wp2
        go_roundw
        case rel => exact ⟨k + 1, by omega, by go_num, trivial, by rw [HA.out]; cases slash <;> rfl⟩
        case measure => simp [intOf]; omega
      · subst h
        cases slash
        · go_wp2
          go_ret
          refine ⟨?_, rfl⟩
          unfold namP
          rw [all_ge _ _ (k + 1) (by rw [HA.out]; rfl)]
          simp
        · go_wp2
          go_roundw
          case rel => exact ⟨k + 1, by omega, by go_num, trivial, by rw [HA.out]; rfl⟩
          case measure => simp [intOf]; omega
      · subst h
        go_wp2
        go_roundw
        case rel => exact ⟨k + 1, by omega, by go_num, trivial, by rw [HA.out]; cases slash <;> rfl⟩
        case measure => simp [intOf]; omega
      · have HC : Hid (chk slash x = true) := by
          show chk slash x = true
          unfold chk; cases slash <;> simp <;> omega
        have a0 : 97 ≤ x := by omega
        have a1 : x ≤ 122 := by omega
        clear h
        go_wp2
        go_roundw
        case rel => exact ⟨k + 1, by omega, by go_num, trivial, by rw [HA.out]; exact HC.out⟩
        case measure => simp [intOf]; omega
      · have HC : Hid (chk slash x = true) := by
          show chk slash x = true
          unfold chk; cases slash <;> simp <;> omega
        have a0 : ¬ 97 ≤ x := by omega
        have a2 : 65 ≤ x := by omega
        have a3 : x ≤ 90 := by omega
        clear h
        go_wp2
        go_roundw
        case rel => exact ⟨k + 1, by omega, by go_num, trivial, by rw [HA.out]; exact HC.out⟩
        case measure => simp [intOf]; omega
      · have HC : Hid (chk slash x = true) := by
          show chk slash x = true
          unfold chk; cases slash <;> simp <;> omega
        have a0 : ¬ 97 ≤ x := by omega
        have a2 : ¬ 65 ≤ x := by omega
        have a4 : 48 ≤ x := by omega
        have a5 : x ≤ 57 := by omega
        clear h
        go_wp2
        go_roundw
        case rel => exact ⟨k + 1, by omega, by go_num, trivial, by rw [HA.out]; exact HC.out⟩
        case measure => simp [intOf]; omega
      · have HC : Hid (chk slash x = false) := by
          show chk slash x = false
          unfold chk; cases slash <;> simp <;> omega
        have a0 : ¬ 97 ≤ x := by omega
        have a2 : ¬ 65 ≤ x := by omega
        have a4 : ¬ 48 ≤ x := by omega
        have a6 : (x == 46) = false := by simp; omega
        have a7 : (x == 45) = false := by simp; omega
        have a8 : (x == 95) = false := by simp; omega
        have a9 : (x == 47) = false := by simp; omega
        clear h
        go_wp2
        go_ret
        refine ⟨?_, rfl⟩
        unfold namP
        rw [all_ge _ _ (k + 1) (by rw [HA.out]; exact HC.out)]
        simp
      · have HC : Hid (chk slash x = false) := by
          show chk slash x = false
          unfold chk; cases slash <;> simp <;> omega
        have a0 : ¬ 97 ≤ x := by omega
        have a2 : ¬ 65 ≤ x := by omega
        have a4 : 48 ≤ x := by omega
        have a5 : ¬ x ≤ 57 := by omega
        have a6 : (x == 46) = false := by simp; omega
        have a7 : (x == 45) = false := by simp; omega
        have a8 : (x == 95) = false := by simp; omega
        have a9 : (x == 47) = false := by simp; omega
        clear h
        go_wp2
        go_ret
        refine ⟨?_, rfl⟩
        unfold namP
        rw [all_ge _ _ (k + 1) (by rw [HA.out]; exact HC.out)]
        simp
      · have HC : Hid (chk slash x = false) := by
          show chk slash x = false
          unfold chk; cases slash <;> simp <;> omega
        have a0 : ¬ 97 ≤ x := by omega
        have a2 : 65 ≤ x := by omega
        have a3 : ¬ x ≤ 90 := by omega
        have a4 : 48 ≤ x := by omega
        have a5 : ¬ x ≤ 57 := by omega
        have a6 : (x == 46) = false := by simp; omega
        have a7 : (x == 45) = false := by simp; omega
        have a8 : (x == 95) = false := by simp; omega
        have a9 : (x == 47) = false := by simp; omega
        clear h
        go_wp2
        go_ret
        refine ⟨?_, rfl⟩
        unfold namP
        rw [all_ge _ _ (k + 1) (by rw [HA.out]; exact HC.out)]
        simp
      · have HC : Hid (chk slash x = false) := by
          show chk slash x = false
          unfold chk; cases slash <;> simp <;> omega
        have a0 : 97 ≤ x := by omega
        have a1 : ¬ x ≤ 122 := by omega
        have a2 : 65 ≤ x := by omega
        have a3 : ¬ x ≤ 90 := by omega
        have a4 : 48 ≤ x := by omega
        have a5 : ¬ x ≤ 57 := by omega
        have a6 : (x == 46) = false := by simp; omega
        have a7 : (x == 45) = false := by simp; omega
        have a8 : (x == 95) = false := by simp; omega
        have a9 : (x == 47) = false := by simp; omega
        clear h
        go_wp2
        go_ret
        refine ⟨?_, rfl⟩
        unfold namP
        rw [all_ge _ _ (k + 1) (by rw [HA.out]; exact HC.out)]
        simp
    · obtain rfl : k = s.size := by omega
      have e : s.data.toList.take s.size = s.data.toList := List.take_of_length_le (by simp)
      rw [e] at hall
      have HA : Hid (s.data.toList.all (fun c => chk slash ((c.toNat : Nat) : Int)) = true) := hall
      clear hall
      by_cases h1 : 1 ≤ s.size
      · have e1 : (1 : Int) ≤ (s.size : Int) := by omega
        by_cases h2 : (s.size : Int) ≤ most
        · go_wp2
          go_ret
          refine ⟨?_, rfl⟩
          unfold namP
          rw [HA.out]
          simp [h1, h2]
        · go_wp2
          go_ret
          refine ⟨?_, rfl⟩
          unfold namP
          rw [HA.out]
          simp [h1, h2]
      · have e1 : ¬ (1 : Int) ≤ (s.size : Int) := by omega
        go_wp2
        go_ret
        refine ⟨?_, rfl⟩
        unfold namP
        rw [HA.out]
        simp [h1]

end Go.Proofs.YtlholgpenpfpbaaGreatDoor

/-
  The document's Find.
-/
namespace Go.Proofs.YtlholgpenpfpbaaGreatDoor
open Go.RowKit

set_option maxRecDepth 100000 in
set_option maxHeartbeats 1000000 in
theorem refFind_any (w : World) (name : ByteArray) (a : Option Addr) (n c : Nat) (ns : List Nd) (hN : NodesAt w a ns) (hl : ns.length = n) (hn : n ≤ 4611686018427387904) (s : ByteArray) :
    Calls Tryz.prog 30 #[.agg #[.string name, .slice a n c], .string s] w fun e w' => e = .returned (.tuple #[.int .i64 ((findP ns s).getD 0 : Nat), .bool (findP ns s).isSome]) ∧ Kept (fun _ => False) w w' := by
  subst hl
  go_enter Tryz.func30, Tryz.ntmps30
  go_wp2
  go_loopw [6] (fun i wr => ∃ (k : Nat), k ≤ ns.length ∧ i = .int .i64 k ∧ wr = w.alloc (.cells #[.string name, .slice a ns.length c] 24) ∧ findP (ns.take k) s = none) (fun i _ => ns.length - (intOf i).toNat)
  case atStart => exact ⟨0, Nat.zero_le _, rfl, rfl, rfl⟩
  case round =>
    obtain ⟨k, hk, rfl, rfl, hf⟩ := hrel
    by_cases hlt : k < ns.length
    · obtain ⟨b, o, av, cv, rfl, hT, c0, c1, c2, c3, c4, c5, c6⟩ := (keptNew (Kept.alloc (fun _ => False) w (.cells #[.string name, .slice a ns.length c] 24)) hN).at hlt
      have hnx := findP_take (s := s) hlt
      have hft := fun h => findP_of_first hlt h (fun j hj => findP_none.1 hf _ (List.mem_take_iff_getElem.2 ⟨j, by omega, rfl⟩))
      rw [hf, Option.none_or] at hnx
      have HF : Hid ((ns[k]).name = s → findP ns s = some k) := hft
      have HN : Hid (findP (ns.take (k + 1)) s = if (ns[k]).name = s then some k else none) := hnx
      have e0 : (k : Int) < (ns.length : Int) := by omega
      clear hft hnx hT hN
      by_cases he : (ns[k]).name = s
      · have he2 : ((ns[k]).name.toList == s.toList) = true := by rw [he]; simp
        generalize ns[k] = x at *
        go_wp2
        go_ret2
        rw [HF.out he]
        exact ⟨rfl, Kept.alloc _ _ _⟩
      · have he2 : ((ns[k]).name.toList == s.toList) = false := by
          simp only [beq_eq_false_iff_ne, ne_eq]
          exact fun h => he (ByteArray.ext (Array.toList_inj.1 (by rw [← Lib.toList_data, ← Lib.toList_data]; exact h)))
        generalize ns[k] = x at *
        go_wp2
        go_roundw
        case rel =>
          refine ⟨k + 1, by omega, by go_num, trivial, ?_⟩
          rw [HN.out, if_neg he]
        case measure => simp [intOf]; omega
    · obtain rfl : k = ns.length := by omega
      clear hN
      go_wp2
      go_ret2
      rw [List.take_length] at hf
      rw [hf]
      exact ⟨rfl, Kept.alloc _ _ _⟩

end Go.Proofs.YtlholgpenpfpbaaGreatDoor

/-
  The document's checkNode.
-/
namespace Go.Proofs.YtlholgpenpfpbaaGreatDoor
open Go.RowKit

set_option maxRecDepth 100000 in
set_option maxHeartbeats 1000000 in
theorem refName_any (w : World) (s : ByteArray) (hs : s.size ≤ maxLen) :
    Calls Tryz.prog 28 #[.string s] w fun e w' => e = .returned (.bool (nameP s)) ∧ w' = w := by
  have h := named_ref w s false 64 hs
  rw [nam_name] at h
  generalize nameP s = b at *
  go_enter Tryz.func28, Tryz.ntmps28
  go_wp2_with (first
    | (go_at_call 48; refine h.mono ?_; rintro e w1 ⟨rfl, rfl⟩; clear h)
    | fail)
  go_ret
  exact ⟨rfl, rfl⟩

set_option maxRecDepth 100000 in
set_option maxHeartbeats 1000000 in
theorem refFlow_any (w : World) (s : ByteArray) (hs : s.size ≤ maxLen) :
    Calls Tryz.prog 49 #[.string s] w fun e w' => e = .returned (.bool (flowP s)) ∧ w' = w := by
  have h := named_ref w s true 256 hs
  rw [nam_flow] at h
  generalize flowP s = b at *
  go_enter Tryz.func49, Tryz.ntmps49
  go_wp2_with (first
    | (go_at_call 48; refine h.mono ?_; rintro e w1 ⟨rfl, rfl⟩; clear h)
    | fail)
  go_ret
  exact ⟨rfl, rfl⟩

theorem bytes_empty (s : ByteArray) : (s = ByteArray.empty) ↔ s.size = 0 := by
  constructor
  · intro h; subst h; rfl
  · intro h
    apply ByteArray.ext
    apply Array.eq_empty_of_size_eq_zero
    exact h

set_option maxRecDepth 100000 in
set_option maxHeartbeats 8000000 in
theorem refNode_raw (w : World) (name : ByteArray) (b o c n i j : Nat) (x0 : ByteArray) (x1 : Int) (x2 x3 : ByteArray) (x4 x5 : Int) (x6 : List ByteArray) (av : Option Addr) (lv cv : Nat) (b1 b2 b3 bf : Bool) (hn : i < n) (_hnn : n ≤ 1000000)
    (hN1 : ∀ V, Calls Tryz.prog 28 #[.string x0] V fun e w' => e = .returned (.bool b1) ∧ w' = V)
    (hN2 : ∀ V, Calls Tryz.prog 28 #[.string x2] V fun e w' => e = .returned (.bool b2) ∧ w' = V)
    (hF3 : ∀ V, Calls Tryz.prog 49 #[.string x3] V fun e w' => e = .returned (.bool b3) ∧ w' = V)
    (hFd : ∀ V, Kept (fun _ => False) w V → Calls Tryz.prog 30 #[.agg #[.string name, .slice (some ⟨b, o, none⟩) n c], .string x0] V fun e w' => e = .returned (.tuple #[.int .i64 (j : Nat), .bool bf]) ∧ Kept (fun _ => False) V w')
    (c0 : (w.alloc (.cells #[.string name, .slice (some ⟨b, o, none⟩) n c] 24)).cell? ⟨b, o + i * 7, none⟩ = some (.string x0))
    (c1 : (w.alloc (.cells #[.string name, .slice (some ⟨b, o, none⟩) n c] 24)).cell? ⟨b, o + i * 7 + 1, none⟩ = some (.int .i64 x1))
    (c2 : (w.alloc (.cells #[.string name, .slice (some ⟨b, o, none⟩) n c] 24)).cell? ⟨b, o + i * 7 + 2, none⟩ = some (.string x2))
    (c3 : (w.alloc (.cells #[.string name, .slice (some ⟨b, o, none⟩) n c] 24)).cell? ⟨b, o + i * 7 + 3, none⟩ = some (.string x3))
    (c4 : (w.alloc (.cells #[.string name, .slice (some ⟨b, o, none⟩) n c] 24)).cell? ⟨b, o + i * 7 + 4, none⟩ = some (.int .i64 x4))
    (c5 : (w.alloc (.cells #[.string name, .slice (some ⟨b, o, none⟩) n c] 24)).cell? ⟨b, o + i * 7 + 5, none⟩ = some (.int .i64 x5))
    (c6 : (w.alloc (.cells #[.string name, .slice (some ⟨b, o, none⟩) n c] 24)).cell? ⟨b, o + i * 7 + 6, none⟩ = some (.slice av lv cv)) :
    Calls Tryz.prog 29 #[.agg #[.string name, .slice (some ⟨b, o, none⟩) n c], .int .i64 i] w fun e w' => e = .returned (.int .i64 (if (b1 && (x1 == 2 || b2) && (x1 != 5 || b3)) = true then (if j < i then 16 else if fitsP ⟨x0, x1, x2, x3, x4, x5, x6⟩ = true then 0 else 1) else 17)) ∧ Kept (fun _ => False) w w' := by
  generalize hr : (if (b1 && (x1 == 2 || b2) && (x1 != 5 || b3)) = true then (if j < i then (16 : Int) else if fitsP ⟨x0, x1, x2, x3, x4, x5, x6⟩ = true then 0 else 1) else 17) = r
  have HR : Hid ((if (b1 && (x1 == 2 || b2) && (x1 != 5 || b3)) = true then (if j < i then (16 : Int) else if fitsP ⟨x0, x1, x2, x3, x4, x5, x6⟩ = true then 0 else 1) else 17) = r) := hr
  clear hr
  have s2 := str_empty x2
  have s3 := str_empty x3
  have e0 : (i : Int) < (n : Int) := by omega
  have HJ : Hid (j < i ∨ ¬ j < i) := Decidable.em _
  cases b1
  · go_enter Tryz.func29, Tryz.ntmps29
    go_wp2_with (first
      | (go_at_call_of 28 (Value.string x0); refine (hN1 _).mono ?_; rintro e w1 ⟨rfl, hw⟩; subst w1)
      | fail)
    go_ret
    refine ⟨?_, (Kept.alloc _ _ _).and (Kept.alloc _ _ _)⟩
    rw [← HR.out]
    rfl
  · rcases HJ.out with hj | hj
    · have ej : (j : Int) < (i : Int) := by omega
      cases b2 <;> cases b3
      all_goals (
        go_enter Tryz.func29, Tryz.ntmps29
        go_wp2_with (first
          | (go_at_call_of 28 (Value.string x0); refine (hN1 _).mono ?_; rintro e w1 ⟨rfl, hw⟩; subst w1)
          | (go_at_call_of 28 (Value.string x2); refine (hN2 _).mono ?_; rintro e w1 ⟨rfl, hw⟩; subst w1)
          | (go_at_call 49; refine (hF3 _).mono ?_; rintro e w1 ⟨rfl, hw⟩; subst w1)
          | (go_at_call 30; refine (hFd _ ((Kept.alloc _ _ _).and (Kept.alloc _ _ _))).mono ?_; rintro e w2 ⟨rfl, K2⟩; have hb := boxN K2; rw [World.size_alloc] at hb; obtain ⟨y0, y1, y2, y3, y4, y5, y6⟩ := hb)
          | fail))
      all_goals go_ret
      all_goals rw [← HR.out]
      all_goals clear HR
      all_goals first | refine ⟨?_, ((Kept.alloc _ _ _).and (Kept.alloc _ _ _)).and K2⟩ | refine ⟨?_, (Kept.alloc _ _ _).and (Kept.alloc _ _ _)⟩
      all_goals clear hN1 hN2 hF3 hFd c0 c1 c2 c3 c4 c5 c6
      all_goals try clear y0 y1 y2 y3 y4 y5 y6
      all_goals try clear K2
      all_goals have hx2 : (x2 = ByteArray.empty) ↔ x2.size = 0 := bytes_empty x2
      all_goals have hx3 : (x3 = ByteArray.empty) ↔ x3.size = 0 := bytes_empty x3
      all_goals unfold fitsP
      all_goals simp only []
      all_goals (first | refine congrArg (fun z => Ending.returned (Value.int .i64 z)) (show (1 : Int) = _ from ?_) | refine congrArg (fun z => Ending.returned (Value.int .i64 z)) (show (0 : Int) = _ from ?_) | refine congrArg (fun z => Ending.returned (Value.int .i64 z)) (show (16 : Int) = _ from ?_) | refine congrArg (fun z => Ending.returned (Value.int .i64 z)) (show (17 : Int) = _ from ?_))
      all_goals (grind; done)
    · have ej : ¬ (j : Int) < (i : Int) := by omega
      cases b2 <;> cases b3
      all_goals (
        go_enter Tryz.func29, Tryz.ntmps29
        go_wp2_with (first
          | (go_at_call_of 28 (Value.string x0); refine (hN1 _).mono ?_; rintro e w1 ⟨rfl, hw⟩; subst w1)
          | (go_at_call_of 28 (Value.string x2); refine (hN2 _).mono ?_; rintro e w1 ⟨rfl, hw⟩; subst w1)
          | (go_at_call 49; refine (hF3 _).mono ?_; rintro e w1 ⟨rfl, hw⟩; subst w1)
          | (go_at_call 30; refine (hFd _ ((Kept.alloc _ _ _).and (Kept.alloc _ _ _))).mono ?_; rintro e w2 ⟨rfl, K2⟩; have hb := boxN K2; rw [World.size_alloc] at hb; obtain ⟨y0, y1, y2, y3, y4, y5, y6⟩ := hb)
          | fail))
      all_goals go_ret
      all_goals rw [← HR.out]
      all_goals clear HR
      all_goals first | refine ⟨?_, ((Kept.alloc _ _ _).and (Kept.alloc _ _ _)).and K2⟩ | refine ⟨?_, (Kept.alloc _ _ _).and (Kept.alloc _ _ _)⟩
      all_goals clear hN1 hN2 hF3 hFd c0 c1 c2 c3 c4 c5 c6
      all_goals try clear y0 y1 y2 y3 y4 y5 y6
      all_goals try clear K2
      all_goals have hx2 : (x2 = ByteArray.empty) ↔ x2.size = 0 := bytes_empty x2
      all_goals have hx3 : (x3 = ByteArray.empty) ↔ x3.size = 0 := bytes_empty x3
      all_goals unfold fitsP
      all_goals simp only []
      all_goals (first | refine congrArg (fun z => Ending.returned (Value.int .i64 z)) (show (1 : Int) = _ from ?_) | refine congrArg (fun z => Ending.returned (Value.int .i64 z)) (show (0 : Int) = _ from ?_) | refine congrArg (fun z => Ending.returned (Value.int .i64 z)) (show (16 : Int) = _ from ?_) | refine congrArg (fun z => Ending.returned (Value.int .i64 z)) (show (17 : Int) = _ from ?_))
      all_goals (grind; done)

/-- The document's checkNode, for a node of a definition. -/
theorem refNode_any (w : World) (name : ByteArray) (a : Option Addr) (c i : Nat) (ns : List Nd) (hN : NodesAt w a ns) (hn : ns.length ≤ 1000000) (hi : i < ns.length) :
    Calls Tryz.prog 29 #[.agg #[.string name, .slice a ns.length c], .int .i64 i] w fun e w' => e = .returned (.int .i64 (nodeE ns i ns[i])) ∧ Kept (fun _ => False) w w' := by
  obtain ⟨b, o, av, cv, rfl, T, x0, x1, x2, x3, x4, x5, x6⟩ := (keptNew (Kept.alloc (fun _ => False) w (.cells #[.string name, .slice a ns.length c] 24)) hN).at hi
  have hok := hN.1 ns[i] (List.getElem_mem hi)
  exact refNode_raw w name b o c ns.length i ((findP ns (ns[i]).name).getD 0) (ns[i]).name (ns[i]).kind (ns[i]).arg (ns[i]).to (ns[i]).delay (ns[i]).tries (ns[i]).after av (ns[i]).after.length cv (nameP (ns[i]).name) (nameP (ns[i]).arg) (flowP (ns[i]).to) (findP ns (ns[i]).name).isSome hi hn
    (fun V => refName_any V _ hok.name) (fun V => refName_any V _ hok.arg) (fun V => refFlow_any V _ hok.to) (fun V K => refFind_any V name _ ns.length c ns (keptNew K hN) rfl (by omega) _) x0 x1 x2 x3 x4 x5 x6

end Go.Proofs.YtlholgpenpfpbaaGreatDoor

/-
  ReadyNodes: the nodes that may begin.
-/
namespace Go.Proofs.YtlholgpenpfpbaaGreatDoor
open Go.RowKit

/-- One name of a node's After is over. -/
def oneP (ns : List Nd) (n : Nd) (l : List Bool) (s : ByteArray) : Bool := match aheadP ns n s with | some j => l.getD j false | none => false
def overP (ns : List Nd) (n : Nd) (l : List Bool) : Bool := n.after.all (oneP ns n l)

theorem over_next {ns : List Nd} {n : Nd} {l : List Bool} {k : Nat} (hk : k < n.after.length) (h : (n.after.take k).all (oneP ns n l) = true) (h1 : oneP ns n l n.after[k] = true) : (n.after.take (k + 1)).all (oneP ns n l) = true := by
  rw [List.take_add_one, List.getElem?_eq_getElem hk, Option.toList_some, List.all_append, h]
  simp [h1]

theorem over_not {ns : List Nd} {n : Nd} {l : List Bool} {k : Nat} (hk : k < n.after.length) (h1 : oneP ns n l n.after[k] = false) : overP ns n l = false := by
  unfold overP
  rw [List.all_eq_false]
  exact ⟨n.after[k], List.getElem_mem hk, by simp [h1]⟩

/-- The nodes that may begin, among the first. -/
def rdyB (ns : List Nd) (lo lb : List Bool) (i : Nat) : Bool := !lb.getD i false && match ns[i]? with | some n => overP ns n lo | none => false
def rdyL (ns : List Nd) (lo lb : List Bool) (k : Nat) : List Nat := (List.range k).filter (rdyB ns lo lb)

theorem rdyL_hit {ns : List Nd} {lo lb : List Bool} {k : Nat} (h : rdyB ns lo lb k = true) : rdyL ns lo lb (k + 1) = rdyL ns lo lb k ++ [k] := by
  unfold rdyL
  rw [List.range_succ, List.filter_append]
  simp [h]

theorem rdyL_miss {ns : List Nd} {lo lb : List Bool} {k : Nat} (h : rdyB ns lo lb k = false) : rdyL ns lo lb (k + 1) = rdyL ns lo lb k := by
  unfold rdyL
  rw [List.range_succ, List.filter_append]
  simp [h]

theorem rdyL_len (ns : List Nd) (lo lb : List Bool) (k : Nat) : (rdyL ns lo lb k).length ≤ k := by
  unfold rdyL
  have := List.length_filter_le (rdyB ns lo lb) (List.range k)
  simpa using this

theorem natsV_snoc (l : List Nat) (i : Nat) : natsV (l ++ [i]) = natsV l ++ [.int .i64 (i : Nat)] := by unfold natsV; simp

end Go.Proofs.YtlholgpenpfpbaaGreatDoor

/-
  The document's at, may and Order, where no two nodes bear one name.
-/
namespace Go.Proofs.YtlholgpenpfpbaaGreatDoor
open Go.RowKit

set_option maxRecDepth 100000 in
set_option maxHeartbeats 1000000 in
theorem refAt_any (w : World) (b o m c : Nat) (l : List Bool) (hl : l.length = m) (hm : m ≤ 4611686018427387904) (h : ∀ j (h : j < l.length), w.cell? ⟨b, o + j, none⟩ = some (.bool (l[j]'h))) (i : Nat) :
    Calls Tryz.prog 69 #[.slice (some ⟨b, o, none⟩) m c, .int .i64 i] w fun e w' => e = .returned (.bool (l.getD i false)) ∧ w' = w := by
  subst hl
  by_cases hlt : i < l.length
  · have e0 : (i : Int) < (l.length : Int) := by omega
    have x0 := h i hlt
    have hg : l.getD i false = l[i] := by simp [List.getD_eq_getElem?_getD, hlt]
    rw [hg]
    clear hg
    generalize l[i] = v at *
    clear h
    go_enter Tryz.func69, Tryz.ntmps69
    go_wp2
    go_ret
    exact ⟨rfl, rfl⟩
  · have e0 : ¬ (i : Int) < (l.length : Int) := by omega
    have hg : l.getD i false = false := by simp [List.getD_eq_getElem?_getD, Nat.le_of_not_lt hlt]
    rw [hg]
    clear hg
    clear h
    go_enter Tryz.func69, Tryz.ntmps69
    go_wp2
    go_ret
    exact ⟨rfl, rfl⟩


/-- No two nodes bear one name. -/
def Uniq (ns : List Nd) : Prop := ∀ i (h : i < ns.length), findP ns (ns[i]'h).name = some i

/-- One name of After is over, for the document. -/
def oneR (ns : List Nd) (i : Nat) (l : List Bool) (s : ByteArray) : Bool := match findP ns s with | some j => !(j == i) && l.getD j false | none => false
def mayR (ns : List Nd) (i : Nat) (l : List Bool) (n : Nd) : Bool := n.after.all (oneR ns i l)

theorem oneR_eq {ns : List Nd} (U : Uniq ns) {i : Nat} (hi : i < ns.length) (l : List Bool) (s : ByteArray) : oneR ns i l s = oneP ns ns[i] l s := by
  unfold oneR oneP aheadP
  by_cases e : s = (ns[i]).name
  · rw [if_pos e, e, U i hi]
    simp
  · rw [if_neg e]
    cases hf : findP ns s with
    | none => rfl
    | some j =>
      have hne : j ≠ i := fun h => by
        subst h
        have := findP_name hf
        exact e this.symm
      simp [hne]

theorem mayR_eq {ns : List Nd} (U : Uniq ns) {i : Nat} (hi : i < ns.length) (l : List Bool) : mayR ns i l ns[i] = overP ns ns[i] l := by
  unfold mayR overP
  apply List.all_congr rfl
  intro s
  exact oneR_eq U hi l s

theorem mayR_next {ns : List Nd} {n : Nd} {l : List Bool} {i k : Nat} (hk : k < n.after.length) (h : (n.after.take k).all (oneR ns i l) = true) (h1 : oneR ns i l n.after[k] = true) : (n.after.take (k + 1)).all (oneR ns i l) = true := by
  rw [List.take_add_one, List.getElem?_eq_getElem hk, Option.toList_some, List.all_append, h]
  simp [h1]

theorem mayR_not {ns : List Nd} {n : Nd} {l : List Bool} {i k : Nat} (hk : k < n.after.length) (h1 : oneR ns i l n.after[k] = false) : mayR ns i l n = false := by
  unfold mayR
  rw [List.all_eq_false]
  exact ⟨n.after[k], List.getElem_mem hk, by simp [h1]⟩

theorem bcells_at {w : World} {b : Nat} {l : List Bool} (h : CellsAt w (some ⟨b, 0, none⟩) (l.map Value.bool)) : ∀ j (hj : j < l.length), w.cell? ⟨b, 0 + j, none⟩ = some (.bool (l[j]'hj)) := by
  intro j hj
  rcases h with h | ⟨b', o', e, hc⟩
  · simp at h; subst h; simp at hj
  · simp only [Option.some.injEq, Addr.mk.injEq] at e
    obtain ⟨rfl, rfl, _⟩ := e
    exact hc j _ (by simp [hj])

set_option maxRecDepth 100000 in
set_option maxHeartbeats 4000000 in
theorem refMay_any (w : World) (name : ByteArray) (a : Option Addr) (c : Nat) (ns : List Nd) (hN : NodesAt w a ns) (hn : ns.length ≤ 1000) (i : Nat) (hi : i < ns.length) (ob co : Nat) (l : List Bool) (hl : l.length ≤ 1000) (hc : CellsAt w (some ⟨ob, 0, none⟩) (l.map Value.bool)) :
    Calls Tryz.prog 50 #[.agg #[.string name, .slice a ns.length c], .int .i64 i, .slice (some ⟨ob, 0, none⟩) l.length co] w fun e w' => e = .returned (.bool (mayR ns i l ns[i])) ∧ Kept (fun _ => False) w w' := by
  have HN : Hid (NodesAt w a ns) := hN
  have HA : Hid (∀ V, Kept (fun _ => False) w V → ∀ j : Nat, Calls Tryz.prog 69 #[.slice (some ⟨ob, 0, none⟩) l.length co, .int .i64 j] V fun e w' => e = .returned (.bool (l.getD j false)) ∧ w' = V) := fun V K j => refAt_any V ob 0 l.length co l rfl (by omega) (bcells_at (hc.kept K (fun _ _ h => h))) j
  have e2 : (i : Int) < (ns.length : Int) := by omega
  clear hN hc
  go_enter Tryz.func50, Tryz.ntmps50
  go_wp2_with fail
  go_loopw [7] (fun q wr => ∃ (k : Nat), k ≤ (ns[i]).after.length ∧ q = .int .i64 k ∧ ((ns[i]).after.take k).all (oneR ns i l) = true ∧ Kept (fun _ => False) (w.alloc (.cells #[.string name, .slice a ns.length c] 24)) wr) (fun q _ => (ns[i]).after.length - (intOf q).toNat)
  case atStart => exact ⟨0, Nat.zero_le _, rfl, by simp, Kept.refl _ _⟩
  case round =>
    obtain ⟨k, hk, rfl, hal, K⟩ := hrel
    have Kw : Kept (fun _ => False) w wr := (Kept.alloc (fun _ => False) _ _).and K
    obtain ⟨x0, x1⟩ := boxD K
    have Nr := keptNew Kw HN.out
    obtain ⟨b, o, av, cv, rfl, hT, c0, c1, c2, c3, c4, c5, c6⟩ := Nr.at hi
    have hfew := (HN.out.1 _ (List.getElem_mem hi)).few
    by_cases hlk : k < (ns[i]).after.length
    · have e1 : (k : Int) < ((ns[i]).after.length : Int) := by omega
      obtain ⟨a2, c2', hsl, hc2, hne⟩ := hT.at
      obtain ⟨rfl, rfl⟩ : av = a2 ∧ cv = c2' := by simpa using hsl
      obtain ⟨xb, xo, rfl, hcell⟩ := hne (fun e => by rw [e] at hlk; simp at hlk)
      have hck := hcell k hlk
      have KD := Kept.drew (fun _ => False) wr
      have FI := refFind_any wr.drew name (some ⟨b, o, none⟩) ns.length c ns (keptNew KD Nr) rfl (by omega) (ns[i]).after[k]
      have HNx : Hid (oneR ns i l (ns[i]).after[k] = true → ((ns[i]).after.take (k + 1)).all (oneR ns i l) = true) := mayR_next hlk hal
      have HNo : Hid (oneR ns i l (ns[i]).after[k] = false → mayR ns i l ns[i] = false) := mayR_not hlk
      have HS : Hid (∀ V, Kept (fun _ => False) wr.drew V → Kept (fun _ => False) wr.drew V ∧ V.cell? ⟨w.heap.size, 0, none⟩ = some (.string name) ∧ V.cell? ⟨w.heap.size, 1, none⟩ = some (.slice (some ⟨b, o, none⟩) ns.length c) ∧ V.cell? ⟨b, o + i * 7 + 6, none⟩ = some (.slice (some ⟨xb, xo, none⟩) (ns[i]).after.length cv) ∧ V.cell? ⟨xb, xo + k, none⟩ = some (.string (ns[i]).after[k])) := fun V KV => ⟨KV, keepC (KD.and KV) x0 (fun _ _ h => h), keepC (KD.and KV) x1 (fun _ _ h => h), keepC (KD.and KV) c6 (fun _ _ h => h), keepC (KD.and KV) hck (fun _ _ h => h)⟩
      have HKD : Hid (Kept (fun _ => False) wr wr.drew) := KD
      have w1 : IntKind.i64.wrap (i : Int) = (i : Int) := by rw [IntKind.wrap_i64]; omega
      have w2 : IntKind.i64.wrap (k : Int) = (k : Int) := by rw [IntKind.wrap_i64]; omega
      have HOn : Hid (oneR ns i l (ns[i]).after[k] = match findP ns (ns[i]).after[k] with | some j => !(j == i) && l.getD j false | none => false) := rfl
      clear hsl hne hcell hT Nr KD c0 c1 c2 c3 c4 c5 hal
      generalize findP ns (ns[i]).after[k] = fr at *
      generalize oneR ns i l (ns[i]).after[k] = r1 at *
      generalize (ns[i]).after[k] = s at *
      generalize hal : (ns[i]).after.length = al at *
      have HAl : Hid ((ns[i]).after.length = al) := hal
      clear hal
      go_wp2_with fail
      refine wp_onlyN ?_
      (go_region_held (fun V => Kept (fun _ => False) wr.drew V ∧ V.cell? ⟨w.heap.size, 0, none⟩ = some (.string name) ∧ V.cell? ⟨w.heap.size, 1, none⟩ = some (.slice (some ⟨b, o, none⟩) ns.length c) ∧ V.cell? ⟨b, o + i * 7 + 6, none⟩ = some (.slice (some ⟨xb, xo, none⟩) al cv) ∧ V.cell? ⟨xb, xo + k, none⟩ = some (.string s)) (first | exact HS.out _ (Kept.refl _ _) | exact HS.out _ (by assumption)) (first
        | (go_at_call 30; refine FI.mono ?_; rintro e w5 ⟨rfl, K5⟩)
        | fail))
      simp only [onlyN]
      rename_i hHeld
      clear hHeld HS FI x0 x1 c6 hck
      have K5' : Kept (fun _ => False) wr w5 := HKD.out.and K5
      cases fr with
      | none =>
        have hr : mayR ns i l ns[i] = false := HNo.out HOn.out
        have HR : Hid (mayR ns i l ns[i] = false) := hr
        clear hr HNo HNx HOn K5
        go_wp2_with fail
        go_ret
        exact ⟨by rw [HR.out]; rfl, Kw.and K5'⟩
      | some j =>
        have hA := HA.out w5 (Kw.and K5') j
        by_cases hji : j = i
        · have hr : mayR ns i l ns[i] = false := HNo.out (by rw [HOn.out]; simp [hji])
          have HR : Hid (mayR ns i l ns[i] = false) := hr
          have q1 : ((j : Int) == (i : Int)) = true := by simp [hji]
          clear hr HNo HNx HOn K5 hA hji
          go_wp2_with fail
          go_ret
          exact ⟨by rw [HR.out]; rfl, Kw.and K5'⟩
        · have q1 : ((j : Int) == (i : Int)) = false := by simp; omega
          cases hb : l.getD j false with
          | false =>
            have hr : mayR ns i l ns[i] = false := HNo.out (by rw [HOn.out]; simp only []; rw [hb]; simp)
            have HR : Hid (mayR ns i l ns[i] = false) := hr
            rw [hb] at hA
            clear hr HNo HNx HOn K5 hji hb
            go_wp2_with (first
              | (go_at_call 69; refine hA.mono ?_; rintro e w6 ⟨rfl, hw⟩; subst w6; clear hA)
              | fail)
            go_ret
            exact ⟨by rw [HR.out]; rfl, Kw.and K5'⟩
          | true =>
            have HX : Hid (((ns[i]).after.take (k + 1)).all (oneR ns i l) = true) := HNx.out (by rw [HOn.out]; simp only []; rw [hb]; simp [hji])
            rw [hb] at hA
            clear HNo HNx HOn K5 hji hb
            go_wp2_with (first
              | (go_at_call 69; refine hA.mono ?_; rintro e w6 ⟨rfl, hw⟩; subst w6; clear hA)
              | fail)
            go_roundw
            case rel => exact ⟨k + 1, by omega, by go_num, HX.out, K.and K5'⟩
            case measure => simp [intOf]; omega
    · obtain hke : k = (ns[i]).after.length := by omega
      have e1 : ¬ (k : Int) < ((ns[i]).after.length : Int) := by omega
      rw [hke, List.take_length] at hal
      have HR : Hid (mayR ns i l ns[i] = true) := hal
      clear hal hT hke Nr
      generalize (ns[i]).after.length = al at *
      go_wp2_with fail
      go_ret
      exact ⟨by rw [HR.out]; rfl, Kw⟩


theorem Tryz.info4 : (Tryz.prog.info? 4).map (fun i => (i.zero, i.size, i.bytes)) = some (some (.bool false), 1, 1) := by kernel_rfl

/-- The marks of those that were told. -/
def toldL (ns : List Nd) (T : List Nat) : List Bool := (List.range ns.length).map (fun x => T.contains x)

theorem toldL_len (ns : List Nd) (T : List Nat) : (toldL ns T).length = ns.length := by unfold toldL; simp
theorem toldL_at (ns : List Nd) (T : List Nat) {j : Nat} (hj : j < ns.length) : (toldL ns T).getD j false = T.contains j := by
  unfold toldL
  rw [List.getD_eq_getElem?_getD, List.getElem?_map, List.getElem?_range hj]
  rfl

theorem told_cells {w : World} {b : Nat} {ns : List Nd} {T : List Nat} {ty : TypeId} (h : w.rowIs b ty ns.length (fun x => .bool (T.contains x))) : CellsAt w (some ⟨b, 0, none⟩) ((toldL ns T).map Value.bool) := by
  refine .inr ⟨b, 0, rfl, fun j u hu => ?_⟩
  unfold toldL at hu
  rw [List.map_map, List.getElem?_map] at hu
  by_cases hj : j < ns.length
  · rw [List.getElem?_range hj] at hu
    rw [Nat.zero_add, h.cell hj]
    exact hu
  · rw [List.getElem?_eq_none (by simpa using Nat.le_of_not_lt hj)] at hu
    cases hu

theorem over_need {ns : List Nd} {T : List Nat} {i : Nat} (hi : i < ns.length) : overP ns ns[i] (toldL ns T) = decide (need ns T ns[i] = 0) := by
  unfold overP need
  rw [Bool.eq_iff_iff, List.all_eq_true, decide_eq_true_eq, List.countP_eq_zero]
  constructor
  · intro h s hs
    have h1 := h s hs
    unfold oneP at h1
    cases ha : aheadP ns ns[i] s with
    | none => rw [ha] at h1; cases h1
    | some j =>
      rw [ha] at h1
      simp only [] at h1
      rw [toldL_at ns T (aheadP_lt ha)] at h1
      have h2 : j ∈ T := by simpa using h1
      simp [h2]
  · intro h s hs
    have h1 := h s hs
    unfold oneP
    cases ha : aheadP ns ns[i] s with
    | none => rw [ha] at h1; simp at h1
    | some j =>
      rw [ha] at h1
      simp only []
      rw [toldL_at ns T (aheadP_lt ha)]
      simpa using h1

theorem may_told {ns : List Nd} {T : List Nat} {i : Nat} (U : Uniq ns) (hi : i < ns.length) : mayB ns T i = (!T.contains i && mayR ns i (toldL ns T) ns[i]) := by
  unfold mayB
  rw [List.getElem?_eq_getElem hi, mayR_eq U hi, over_need hi]

/-- The first of the last d nodes that may be told. -/
def nxtD (ns : List Nd) (T : List Nat) : Nat → Int
  | 0 => -1
  | d + 1 => if mayB ns T (ns.length - (d + 1)) = true then ((ns.length - (d + 1) : Nat) : Int) else nxtD ns T d

theorem nxtD_is {ns : List Nd} {T : List Nat} : ∀ d, d ≤ ns.length → (∃ i : Nat, nxtD ns T d = (i : Int) ∧ ns.length - d ≤ i ∧ mayB ns T i = true ∧ ∀ j, ns.length - d ≤ j → j < i → mayB ns T j = false) ∨ (nxtD ns T d = -1 ∧ ∀ j, ns.length - d ≤ j → j < ns.length → mayB ns T j = false)
  | 0, _ => .inr ⟨rfl, fun j h1 h2 => by omega⟩
  | d + 1, h => by
    unfold nxtD
    by_cases c : mayB ns T (ns.length - (d + 1)) = true
    · rw [if_pos c]
      exact .inl ⟨_, rfl, Nat.le_refl _, c, fun j h1 h2 => by omega⟩
    · rw [if_neg c]
      have c' : mayB ns T (ns.length - (d + 1)) = false := by simpa using c
      rcases nxtD_is (ns := ns) (T := T) d (by omega) with ⟨i, h1, h2, h3, h4⟩ | ⟨h1, h2⟩
      · refine .inl ⟨i, h1, by omega, h3, fun j g1 g2 => ?_⟩
        by_cases e : j = ns.length - (d + 1)
        · subst e; exact c'
        · exact h4 j (by omega) g2
      · refine .inr ⟨h1, fun j g1 g2 => ?_⟩
        by_cases e : j = ns.length - (d + 1)
        · subst e; exact c'
        · exact h2 j (by omega) g2

/-- What stands between the rounds. -/
structure ROSt (w : World) (name : ByteArray) (a : Option Addr) (c : Nat) (ns : List Nd) (wr : World) (T : List Nat) (v5 : Value) : Prop where
  box : wr.heap[w.heap.size]? = some (.cells #[.string name, .slice a ns.length c] 24 (0, 0))
  told : wr.rowIs (w.heap.size + 1) 4 ns.length (fun x => .bool (T.contains x))
  row : wr.ownsRow (w.heap.size + 2) 3 1 v5 T.length (natsV T)
  kept : Kept (fun j => w.heap.size + 1 ≤ j) w wr
  run : Runs ns T

theorem ROSt.keep {w wr V : World} {name : ByteArray} {a : Option Addr} {c : Nat} {ns : List Nd} {T : List Nat} {v5 : Value} (S : ROSt w name a c ns wr T v5) (K : Kept (fun _ => False) wr V) : ROSt w name a c ns V T v5 :=
  ⟨(K.block _ (Array.getElem?_eq_some_iff.1 S.box).1 (fun h => h)).trans S.box, S.told.of_block (K.block _ S.told.lt (fun h => h)), ownsRow_keep S.row (fun g hg => K.block g (ownsRow_blk S.row hg) (fun h => h)), S.kept.and (K.mono (fun _ h => h.elim)), S.run⟩

theorem int_nat_eq (m n : Nat) : ((m : Int) == (n : Int)) = decide (m = n) := by
  by_cases h : m = n
  · simp [h]
  · have h2 : ¬ (m : Int) = (n : Int) := by omega
    simp [h, h2]

set_option maxRecDepth 100000 in
set_option maxHeartbeats 8000000 in
theorem refOrder_any (w : World) (name : ByteArray) (a : Option Addr) (c : Nat) (ns : List Nd) (hN : NodesAt w a ns) (hn : ns.length ≤ 1000) (U : Uniq ns) :
    Calls Tryz.prog 31 #[.agg #[.string name, .slice a ns.length c]] w fun e w' => ∃ av cv, e = .returned (.tuple #[.slice av (ordP ns).length cv, .bool (decide ((ordP ns).length = ns.length))]) ∧ Kept (fun _ => False) w w' := by
  obtain ⟨i0, hi0, hz0, hz1, hz2⟩ := info_parts Tryz.info3
  have hm1 := fun W => run_make_row' (P := Tryz.prog) 85 4 (.bool false) 1 Tryz.underlying85 Tryz.info4 rfl .i64 .i64 ns.length (by omega) (by omega) W
  have HN : Hid (NodesAt w a ns) := hN
  have HU : Hid (Uniq ns) := U
  have R0 := World.rowIs_made (w.alloc (.cells #[.string name, .slice a ns.length c] 24)) (.bool false) ns.length 4
  rw [World.size_alloc] at R0
  have HS0 : Hid (ROSt w name a c ns ((w.alloc (.cells #[.string name, .slice a ns.length c] 24)).alloc (.cells (madeCells #[.bool false] ns.length) 4)) [] (.slice none 0 0)) := by
    refine ⟨?_, R0.congr (fun q _ => by simp), World.ownsRow_nil _ _ _ _, (Kept.alloc _ _ _).and (Kept.alloc _ _ _), Runs.zero ns⟩
    rw [(Kept.alloc (fun _ => False) _ _).block w.heap.size (by simp) (fun h => h)]
    exact heap_alloc_new _ _
  clear hN U R0
  go_enter Tryz.func31, Tryz.ntmps31
  go_wp2_with fail
  go_loopw [5] (fun v wr => ∃ (T : List Nat) (a5 : Option Addr) (c5 : Nat), v = .slice a5 T.length c5 ∧ ROSt w name a c ns wr T (.slice a5 T.length c5)) (fun v _ => ns.length - sliceLen v)
  case atStart => exact ⟨[], none, 0, rfl, HS0.out⟩
  case round =>
    obtain ⟨T, a5, c5, rfl, S⟩ := hrel
    obtain ⟨⟨x0, x1⟩, _, _⟩ := twoC S.box
    have HS : Hid (ROSt w name a c ns wr T (.slice a5 T.length c5)) := S
    have hrl := S.told.lt
    have htl := S.run.2.2.2.1
    clear S HS0 hm1
    obtain ⟨wo, hwo⟩ : ∃ wo, wo = wr := ⟨_, rfl⟩
    subst hwo
    go_wp2_with fail
    have HKe : Hid (∀ V, Kept (fun _ => False) wo V → ROSt w name a c ns V T (.slice a5 T.length c5)) := fun V K => HS.out.keep K
    have HMa : Hid (∀ V, Kept (fun _ => False) wo V → ∀ i (hi : i < ns.length), Calls Tryz.prog 50 #[.agg #[.string name, .slice a ns.length c], .int .i64 i, .slice (some ⟨w.heap.size + 1, 0, none⟩) ns.length ns.length] V fun e w' => e = .returned (.bool (mayR ns i (toldL ns T) ns[i])) ∧ Kept (fun _ => False) V w') := fun V K i hi => by
      have S := HS.out.keep K
      have h := refMay_any V name a c ns (HN.out.kept S.kept (fun k hk => by omega)) hn i hi (w.heap.size + 1) ns.length (toldL ns T) (by rw [toldL_len]; exact hn) (told_cells S.told)
      rw [toldL_len] at h
      exact h
    have HMt : Hid (∀ i (hi : i < ns.length), mayB ns T i = (!T.contains i && mayR ns i (toldL ns T) ns[i])) := fun i hi => may_told HU.out hi
    go_loopw [7, 6] (fun q v wr => ∃ (d : Nat), d ≤ ns.length ∧ q = .int .i64 ((ns.length : Int) - (d : Int) - 1) ∧ v = .int .i64 (nxtD ns T d) ∧ Kept (fun _ => False) wo wr) (fun q _ _ => (intOf q + 1).toNat)
    case atStart => exact ⟨0, Nat.zero_le _, by go_num, rfl, Kept.refl _ _⟩
    case round =>
      obtain ⟨d, hd, rfl, rfl, K⟩ := hrel
      have S := HKe.out wr K
      by_cases hlt : d < ns.length
      · obtain ⟨i, hie⟩ : ∃ i : Nat, i = ns.length - (d + 1) := ⟨_, rfl⟩
        have hi : i < ns.length := by omega
        have hq : (ns.length : Int) - (d : Int) - 1 = (i : Int) := by omega
        rw [hq]
        have cT := S.told.cell hi
        obtain ⟨⟨z0, z1⟩, _, _⟩ := twoC S.box
        have e1 : (0 : Int) ≤ (i : Int) := by omega
        have e2 : (i : Int) < (ns.length : Int) := by omega
        have hM := HMa.out wr K i hi
        have hmt := HMt.out i hi
        have HNx : Hid (nxtD ns T (d + 1) = if mayB ns T i = true then (i : Int) else nxtD ns T d) := by show _ = _; rw [nxtD, ← hie]
        have HQ : Hid ((i : Int) - 1 = (ns.length : Int) - ((d + 1 : Nat) : Int) - 1) := by show _ = _; omega
        clear S hq hie
        cases hb : T.contains i with
        | true =>
          rw [hb] at cT hmt
          have HF : Hid (nxtD ns T (d + 1) = nxtD ns T d) := by show _ = _; rw [HNx.out, hmt]; simp
          clear hmt HNx hM hb
          generalize nxtD ns T d = nx at *
          go_wp2_with fail
          go_roundw
          case rel => exact ⟨d + 1, by omega, by rw [← HQ.out], by rw [HF.out], K⟩
          case measure => have h9 := HQ.out; simp [intOf] <;> omega
        | false =>
          rw [hb] at cT hmt
          generalize mayR ns i (toldL ns T) ns[i] = mr at *
          cases mr with
          | false =>
            have HF : Hid (nxtD ns T (d + 1) = nxtD ns T d) := by show _ = _; rw [HNx.out, hmt]; simp
            clear hmt HNx hb
            generalize nxtD ns T d = nx at *
            go_wp2_with (first
              | (go_at_call 50; refine hM.mono ?_; rintro e w5 ⟨rfl, K5⟩; clear hM)
              | fail)
            go_roundw
            case rel => exact ⟨d + 1, by omega, by rw [← HQ.out], by rw [HF.out], K.and K5⟩
            case measure => have h9 := HQ.out; simp [intOf] <;> omega
          | true =>
            have HF : Hid (nxtD ns T (d + 1) = (i : Int)) := by show _ = _; rw [HNx.out, hmt]; simp
            clear hmt HNx hb
            generalize nxtD ns T d = nx at *
            go_wp2_with (first
              | (go_at_call 50; refine hM.mono ?_; rintro e w5 ⟨rfl, K5⟩; clear hM)
              | fail)
            go_roundw
            case rel => exact ⟨d + 1, by omega, by rw [← HQ.out], by rw [HF.out], K.and K5⟩
            case measure => have h9 := HQ.out; simp [intOf] <;> omega
      · obtain rfl : d = ns.length := by omega
        have hq : (ns.length : Int) - (ns.length : Int) - 1 = -1 := by omega
        rw [hq]
        clear hq
        have e1 : ¬ (0 : Int) ≤ -1 := by omega
        have HSr : Hid (ROSt w name a c ns wr T (.slice a5 T.length c5)) := S
        obtain ⟨⟨z0, z1⟩, _, _⟩ := twoC S.box
        rcases nxtD_is (ns := ns) (T := T) ns.length (Nat.le_refl _) with ⟨i, h1, _, h3, h4⟩ | ⟨h1, h2⟩
        · rw [h1]
          have hi := mayB_lt h3
          have e2 : ¬ (i : Int) < 0 := by omega
          have e3 : (i : Int) < (ns.length : Int) := by omega
          have cT := S.told.cell hi
          have fT := S.told.frozen i
          have HRu : Hid (Runs ns (T ++ [i])) := S.run.step h3 (fun j hj => h4 j (by omega) hj)
          have hlt2 := HRu.out.2.2.2.1
          rw [List.length_append, List.length_singleton] at hlt2
          have HOw : Hid ((wr.setCell ⟨w.heap.size + 1, i, none⟩ (.bool true)).ownsRow (w.heap.size + 2) 3 1 (.slice a5 T.length c5) T.length (natsV T)) := ownsRow_keep S.row (fun g hg => (Kept.setCell (S := fun j => j = w.heap.size + 1) wr ⟨w.heap.size + 1, i, none⟩ (.bool true) rfl).block g (ownsRow_blk S.row hg) (by have := (S.row.lt g hg).1; omega))
          have HC : Hid (∀ u ∈ [Value.int .i64 (i : Nat)], u.oneCell' = true) := natsV_one [i]
          have hsz : w.heap.size + 2 ≤ wr.heap.size := by have := S.told.lt; omega
          have hsz2 : w.heap.size + 2 ≤ (wr.setCell ⟨w.heap.size + 1, i, none⟩ (.bool true)).heap.size := by simpa [World.setCell] using hsz
          have HNw : Hid (((wr.setCell ⟨w.heap.size + 1, i, none⟩ (.bool true)).alloc (.cells #[.int .i64 (i : Nat)] 3)).heap[wr.heap.size]? = some (.cells #[.int .i64 (i : Nat)] 3 (0, 0))) := by
            have h := heap_alloc_new (wr.setCell ⟨w.heap.size + 1, i, none⟩ (.bool true)) (.cells #[.int .i64 (i : Nat)] 3)
            have hs : (wr.setCell ⟨w.heap.size + 1, i, none⟩ (.bool true)).heap.size = wr.heap.size := by simp [World.setCell]
            rw [hs] at h
            exact h
          clear S h1 h3 h4 HKe HMa HMt
          generalize hm8 : T.length = m8 at *
          go_wp2_with (first
            | (at_builtin; go_loud (refine wpList_append_src _ rfl _ _ 50 rfl (w.heap.size + 2) 3 i0 _ 1 8 Tryz.underlying50 hi0 hz0 hz1 hz2 rfl (by decide) (.slice a5 m8 c5) m8 _ rfl (HOw.out.alloc _) _ rfl 1 _ (.inl ⟨_, 1, rfl, rfl, World.news_of_block HNw.out⟩) HC.out (by unfold maxLen; omega) (by omega) (by rw [World.size_alloc]; omega) ?_; intro a3 cap3 w7 ho3 hg3 _ hl3))
            | fail)
          have K1 : Kept (fun j => j = w.heap.size + 1) wr (wr.setCell ⟨w.heap.size + 1, i, none⟩ (.bool true)) := Kept.setCell _ _ _ rfl
          have K2 : Kept (fun _ => False) (wr.setCell ⟨w.heap.size + 1, i, none⟩ (.bool true)) ((wr.setCell ⟨w.heap.size + 1, i, none⟩ (.bool true)).alloc (.cells #[.int .i64 (i : Nat)] 3)) := Kept.alloc _ _ _
          have KG : Kept (fun g => w.heap.size + 2 ≤ g) ((wr.setCell ⟨w.heap.size + 1, i, none⟩ (.bool true)).alloc (.cells #[.int .i64 (i : Nat)] 3)) w7 := Kept.grown hg3 (fun g e => (HOw.out.lt g e).1)
          have KA := (K1.mono (S' := fun j => w.heap.size + 1 ≤ j) (fun j h => by omega)).and ((K2.mono (fun _ h => h.elim)).and (KG.mono (fun j h => by omega)))
          have KB : Kept (fun j => w.heap.size + 2 ≤ j) (wr.setCell ⟨w.heap.size + 1, i, none⟩ (.bool true)) w7 := (K2.mono (fun _ h => h.elim)).and KG
          have hbx := (Array.getElem?_eq_some_iff.1 HSr.out.box).1
          have hz1' := K1.size
          go_roundw
          case rel =>
            refine ⟨T ++ [i], a3, cap3, by simp [hm8], (KA.block _ hbx (by omega)).trans HSr.out.box, ?_, ?_, HSr.out.kept.and KA, HRu.out⟩
            · refine ((HSr.out.told.set i (.bool true)).of_block (KB.block _ (by omega) (by omega))).congr (fun q _ => ?_)
              by_cases e : q = i
              · simp [e]
              · simp [e]
            · rw [List.length_append, List.length_singleton, hm8, natsV_snoc]
              exact ho3
          case measure => simp [sliceLen]; omega
        · rw [h1]
          have hst := S.run.stop (fun j hj => h2 j (by omega) hj)
          have HSt : Hid (ordP ns = T) := hst
          have Kw : Kept (fun _ => False) w wr := (Kept.refl (fun _ => False) w).trans S.kept (fun g h => .inr (by omega))
          have HKw : Hid (Kept (fun _ => False) w wr) := Kw
          clear S h1 h2 hst HKe HMa HMt Kw
          go_wp2_with (first | go_quiet (fail) | fail)
          go_ret2
          refine ⟨⟨a5, c5, ?_⟩, HKw.out.and (Kept.drewN _ _ _)⟩
          rw [HSt.out, ← int_nat_eq]
          rfl

end Go.Proofs.YtlholgpenpfpbaaGreatDoor
