/- Both cursors, side by side: each call comes to the same. -/
import Derived.Test.YtgnmkdcoglbafaaRefCurD
namespace Go.Proofs.Ytgnmkdcoglbafaa
open Go.RowKit

/-- the program's cursor at block g, and the document's (a, c, B, r), stand alike -/
structure St (w : World) (g M : Nat) (a : Option Addr) (c : Nat) (B : List Int) (r : Nat) (s o f : Int) : Prop where
  cur : Cur w g M (B.drop r) r s o f
  hol : Holds w a c B
  rle : r ≤ B.length
  len : B.length ≤ 2000
  sne : s ≠ 0
  one : o ≠ 0
  mlt : M < w.heap.size

def refA (a : Option Addr) (m c r : Nat) (s o f : Int) : Value := .agg #[.slice a m c, .int .i64 r, .int .i64 s, .int .i64 o, .int .i64 f]

/-- what a call of the program's that reads integers hands back -/
def ProgInts (k : IntKind) (w : World) (g M : Nat) (B : List Int) (out : List Int) (r : Nat) (s o f : Int) (e : Ending) (w' : World) : Prop :=
  ∃ a c, e = .returned (.slice a out.length c) ∧ Ints k w' a out ∧ Cur w' g M (B.drop r) r s o f ∧ w.grownBy w' (some g)
/-- what the document's hands back -/
def RefInts (k : IntKind) (w : World) (a : Option Addr) (m c : Nat) (out : List Int) (r : Nat) (s o f : Int) (e : Ending) (w' : World) : Prop :=
  ∃ a' c', e = .returned (.tuple #[.agg #[.slice a m c, .int .i64 r, .int .i64 s, .int .i64 o, .int .i64 f], .slice a' out.length c']) ∧ Below w.heap.size w w' ∧ Ints k w' a' out

section
variable {w : World} {g M : Nat} {a : Option Addr} {c : Nat} {B : List Int} {r : Nat} {s o f : Int}

theorem gives_ints {e : TypeId} {k : IntKind} {w w' : World} {row : Option Nat} {v : Value} {xs : List Int} (h : Gives e w w' row v (xs.map (Value.int k))) : ∃ a c, v = .slice a xs.length c ∧ Ints k w' a xs := by
  obtain ⟨a, c, rfl, _, _, hI⟩ := own_ints h.own
  exact ⟨a, c, rfl, hI⟩

theorem bytes_prog {w2 : World} {n : Int} {out l : List Int} {r' : Int} {f' : Int} {r2 : Nat} (hr : r' = r2) (hl : l = B.drop r2)
    (h : Calls Try.prog 17 #[.pointer (some ⟨g, 0, none⟩), .int .i64 n] w2 (BytesPost w2 g M out l r' s o f')) :
    Calls Try.prog 17 #[.pointer (some ⟨g, 0, none⟩), .int .i64 n] w2 (ProgInts .u8 w2 g M B out r2 s o f') := by
  subst hr hl
  refine h.mono ?_
  rintro e w' ⟨k, rfl, hG, hC⟩
  obtain ⟨a', c', he, hI⟩ := gives_ints hG
  simp at he
  obtain ⟨rfl, rfl⟩ := he
  exact ⟨_, _, rfl, hI, hC, hG.by_⟩

theorem bytes_both (h : St w g M a c B r s o f) (n : Int) : ∃ (out : List Int) (r' : Nat) (f' : Int), r' ≤ B.length ∧ out.length ≤ 2000 ∧
    (∀ w1, Holds w1 a c B → Calls Try.prog 27 #[.agg #[.slice a B.length c, .int .i64 r, .int .i64 s, .int .i64 o, .int .i64 f], .int .i64 n] w1 (RefInts .u8 w1 a B.length c out r' s o f')) ∧
    (∀ w2, Cur w2 g M (B.drop r) r s o f → Calls Try.prog 17 #[.pointer (some ⟨g, 0, none⟩), .int .i64 n] w2 (ProgInts .u8 w2 g M B out r' s o f')) := by
  have hlen := h.len
  have hrle := h.rle
  by_cases hn : n < 0
  · by_cases hf : f = 0
    · subst hf
      exact ⟨[], r, 10001, h.rle, by simp, fun w1 _ => (refBytes_neg w1 a _ c r s o hn).mono fun e w' ⟨he, hB⟩ => ⟨none, 0, he, hB, Ints.nil _ _ _⟩, fun w2 hC => bytes_prog rfl rfl (hC.bytes_neg hn)⟩
    · exact ⟨[], r, f, h.rle, by simp, fun w1 _ => (refBytes_negL w1 a _ c r s o f hn hf).mono fun e w' ⟨he, hB⟩ => ⟨none, 0, he, hB, Ints.nil _ _ _⟩, fun w2 hC => bytes_prog rfl rfl (hC.bytes_late hf n)⟩
  · by_cases hf : f = 0
    · subst hf
      obtain ⟨q, rfl⟩ := Int.eq_ofNat_of_zero_le (show 0 ≤ n by omega)
      have hdl : (B.drop r).length = B.length - r := List.length_drop ..
      by_cases hq : q ≤ B.length - r
      · refine ⟨(B.drop r).take q, r + q, 0, by omega, by rw [List.length_take]; omega, fun w1 hH => (refBytes_ok w1 a c B hH s o r q (by omega) (by omega)).mono ?_, fun w2 hC => bytes_prog (by simp) (by rw [List.drop_drop]) (hC.bytes_ok (by omega))⟩
        rintro e w' ⟨a', c', out, ho, hol, rfl, hB, hN⟩
        have ho' := ho.out
        subst ho'
        exact ⟨a', c', by simp, hB, hN.holds.ints⟩
      · exact ⟨[], r, s, h.rle, by simp, fun w1 _ => (refBytes_short w1 a _ c r s o (by omega) (by omega) (by omega) (by omega)).mono fun e w' ⟨he, hB⟩ => ⟨none, 0, he, hB, Ints.nil _ _ _⟩, fun w2 hC => bytes_prog rfl rfl (hC.bytes_short (by omega))⟩
    · exact ⟨[], r, f, h.rle, by simp, fun w1 _ => (refBytes_late w1 a _ c r s o f (by omega) hf).mono fun e w' ⟨he, hB⟩ => ⟨none, 0, he, hB, Ints.nil _ _ _⟩, fun w2 hC => bytes_prog rfl rfl (hC.bytes_late hf n)⟩

theorem rest_both (h : St w g M a c B r s o f) : ∃ (out : List Int) (r' : Nat) (f' : Int), r' ≤ B.length ∧ out.length ≤ 2000 ∧
    (∀ w1, Holds w1 a c B → Calls Try.prog 28 #[.agg #[.slice a B.length c, .int .i64 r, .int .i64 s, .int .i64 o, .int .i64 f]] w1 (RefInts .u8 w1 a B.length c out r' s o f')) ∧
    (∀ w2, Cur w2 g M (B.drop r) r s o f → Calls Try.prog 18 #[.pointer (some ⟨g, 0, none⟩)] w2 (ProgInts .u8 w2 g M B out r' s o f')) := by
  have hlen := h.len
  have hrle := h.rle
  have hdl : (B.drop r).length = B.length - r := List.length_drop ..
  by_cases hf : f = 0
  · subst hf
    refine ⟨B.drop r, B.length, 0, Nat.le_refl _, by omega, fun w1 hH => (refRest_ok w1 a c B hH s o r (B.length - r) (by omega) (by omega)).mono ?_, fun w2 hC => hC.rest_ok.mono ?_⟩
    · rintro e w' ⟨a', c', out, ho, hol, rfl, hB, hN⟩
      have ho' : out = B.drop r := by rw [ho.out, List.take_of_length_le (by omega)]
      subst ho'
      exact ⟨a', c', by simp; omega, hB, hN.holds.ints⟩
    · rintro e w' ⟨k, rfl, hG, hC'⟩
      obtain ⟨a', c', he, hI⟩ := gives_ints hG
      simp only [Value.slice.injEq] at he
      obtain ⟨rfl, _, rfl⟩ := he
      refine ⟨_, _, rfl, hI, ?_, hG.by_⟩
      have e1 : (r : Int) + ((B.drop r).length : Int) = (B.length : Nat) := by omega
      rw [e1] at hC'
      rw [List.drop_length]
      exact hC'
  · refine ⟨[], r, f, h.rle, by simp, fun w1 _ => (refRest_late w1 a _ c r (B.length - r) s o f (by omega) (by omega) hf).mono fun e w' ⟨he, hB⟩ => ⟨none, 0, he, hB, Ints.nil _ _ _⟩, fun w2 hC => (hC.rest_late hf).mono ?_⟩
    rintro e w' ⟨k, rfl, hG, hC'⟩
    exact ⟨_, _, rfl, Ints.nil _ _ _, hC', hG.by_⟩

theorem row_both (h : St w g M a c B r s o f) (ws : List Int) (hw : ws.length ≤ 9223372036854775807) : ∃ (out : List Int) (r' : Nat) (f' : Int), r' ≤ B.length ∧ out.length ≤ 100 ∧
    (∀ w1, Holds w1 a c B → ∀ x d, Ints .i64 w1 x ws → Calls Try.prog 26 #[.agg #[.slice a B.length c, .int .i64 r, .int .i64 s, .int .i64 o, .int .i64 f], .slice x ws.length d] w1 (RefRow w1 a B.length c r' s o f' out)) ∧
    (∀ w2, Cur w2 g M (B.drop r) r s o f → ∀ x d, Ints .i64 w2 x ws → Calls Try.prog 21 #[.pointer (some ⟨g, 0, none⟩), .slice x ws.length d] w2 (ProgInts .u64 w2 g M B out r' s o f')) := by
  have hlen := h.len
  have hrle := h.rle
  have hdl : (B.drop r).length = B.length - r := List.length_drop ..
  by_cases hf : f = 0
  · subst hf
    cases hg : getW ws (B.drop r) with
    | error q =>
      rcases getW_err2 hg with rfl | rfl
      · exact ⟨[], r, s, h.rle, by simp, fun w1 hH x d hx => refRow_err1 w1 a c B hH s o r h.rle (by omega) ws x d hw hx hg, fun w2 hC x d hx => (hC.row_short ws x d hw hx hg).mono fun e w' ⟨he, hC', hB⟩ => ⟨none, 0, he, Ints.nil _ _ _, hC', hB⟩⟩
      · exact ⟨[], r, o, h.rle, by simp, fun w1 hH x d hx => refRow_err2 w1 a c B hH s o r h.rle (by omega) ws x d hw hx hg, fun w2 hC x d hx => (hC.row_odd ws x d hw hx hg).mono fun e w' ⟨he, hC', hB⟩ => ⟨none, 0, he, Ints.nil _ _ _, hC', hB⟩⟩
    | ok ns =>
      obtain ⟨k1, k2, k3, k4, k5⟩ := getW_ok hg (h.hol.oct.drop r)
      have hcl := countL_bound ws
      have hwl := rightW_len k1
      refine ⟨ns, r + sizeL ws, 0, by omega, by omega, fun w1 hH x d hx => (refRow_ok w1 a c B hH s o r h.rle (by omega) ws ns x d hw hx hg).mono ?_, fun w2 hC x d hx => (hC.row_ok ws ns x d hw hx hg).mono ?_⟩
      · rintro e w' ⟨a', c', rfl, hB, hI, hfar⟩
        exact ⟨a', c', by simp, hB, hI, hfar⟩
      · rintro e w' ⟨v, rfl, hG, hC'⟩
        obtain ⟨a', c', rfl, hI⟩ := gives_ints hG
        refine ⟨a', c', rfl, hI, ?_, hG.by_⟩
        rw [List.drop_drop] at hC'
        simpa using hC'
  · exact ⟨[], r, f, h.rle, by simp, fun w1 _ x d _ => refRow_late w1 a _ c r s o f _ hf, fun w2 hC x d _ => (hC.row_late hf _).mono fun e w' ⟨he, hw'⟩ => by subst hw'; exact ⟨none, 0, he, Ints.nil _ _ _, hC, grownBy_refl _ _⟩⟩

theorem fail_both (_h : St w g M a c B r s o f) (n : Int) : ∃ f' : Int,
    (∀ w1, Calls Try.prog 31 #[.agg #[.slice a B.length c, .int .i64 r, .int .i64 s, .int .i64 o, .int .i64 f], .int .i64 n] w1 fun e w' => e = .returned (.agg #[.slice a B.length c, .int .i64 r, .int .i64 s, .int .i64 o, .int .i64 f']) ∧ Below w1.heap.size w1 w') ∧
    (∀ w2, Cur w2 g M (B.drop r) r s o f → Calls Try.prog 30 #[.pointer (some ⟨g, 0, none⟩), .int .i64 n] w2 fun e w' => e = .returned (.tuple #[]) ∧ Cur w' g M (B.drop r) r s o f' ∧ w2.grownBy w' (some g)) := by
  by_cases hf : f = 0
  · subst hf
    exact ⟨n, fun w1 => refFail_first w1 a _ c r s o n, fun w2 hC => hC.fail n⟩
  · exact ⟨f, fun w1 => refFail_late w1 a _ c r s o f n hf, fun w2 hC => (hC.fail_late hf n).mono fun e w' ⟨he, hw'⟩ => by subst hw'; exact ⟨he, hC, grownBy_refl _ _⟩⟩

theorem num_both (h : St w g M a c B r s o f) (n : Int) : ∃ (y : Int) (r' : Nat) (f' : Int), r' ≤ B.length ∧
    (∀ w1, Holds w1 a c B → Calls Try.prog 25 #[.agg #[.slice a B.length c, .int .i64 r, .int .i64 s, .int .i64 o, .int .i64 f], .int .i64 n] w1 fun e w' => e = .returned (.tuple #[.agg #[.slice a B.length c, .int .i64 r', .int .i64 s, .int .i64 o, .int .i64 f'], .int .u64 y]) ∧ Below w1.heap.size w1 w') ∧
    (∀ w2, Cur w2 g M (B.drop r) r s o f → Calls Try.prog 20 #[.pointer (some ⟨g, 0, none⟩), .int .i64 n] w2 fun e w' => e = .returned (.int .u64 y) ∧ Cur w' g M (B.drop r') r' s o f' ∧ w2.grownBy w' (some g)) := by
  have hlen := h.len
  have hrle := h.rle
  have hdl : (B.drop r).length = B.length - r := List.length_drop ..
  by_cases hn : n < 1 ∨ 8 < n
  · by_cases hf : f = 0
    · subst hf
      exact ⟨0, r, 10001, h.rle, fun w1 _ => refNum_bad w1 a _ c r s o 0 10001 n hn (.inl ⟨rfl, rfl⟩), fun w2 hC => hC.num_bad hn⟩
    · exact ⟨0, r, f, h.rle, fun w1 _ => refNum_bad w1 a _ c r s o f f n hn (.inr ⟨hf, rfl⟩), fun w2 hC => (hC.num_late hf n).mono fun e w' ⟨he, hB⟩ => ⟨he, hC.below hB, grownBy_more (below_by_none hB)⟩⟩
  · have h1 : ¬ n < 1 := fun h => hn (.inl h)
    have h8 : ¬ 8 < n := fun h => hn (.inr h)
    by_cases hf : f = 0
    · subst hf
      obtain ⟨q, rfl⟩ := Int.eq_ofNat_of_zero_le (show 0 ≤ n by omega)
      by_cases hq : q ≤ B.length - r
      · refine ⟨numL ((B.drop r).take q), r + q, 0, by omega, fun w1 hH => (refNum_one w1 a _ c r s o 0 (r + q) 0 q (numL ((B.drop r).take q)) h1 h8 ?_).mono ?_, fun w2 hC => (hC.num_ok (n := q) (by omega) (by omega) (by omega)).mono ?_⟩
        · intro w2 hB x hx
          have hg : getW [(q : Int)] (B.drop r) = .ok [numL ((B.drop r).take q)] := by rw [getW_one (by omega) (by omega), if_neg (by omega)]
          have := refRow_ok w2 a c B (hH.below hB) s o r h.rle (by omega) [(q : Int)] _ x 1 (by simp) hx hg
          rw [sizeL_one] at this
          exact this
        · rintro e w' ⟨rfl, hB⟩
          exact ⟨by simp, hB⟩
        · rintro e w' ⟨rfl, hC', hB⟩
          rw [List.drop_drop] at hC'
          exact ⟨rfl, by simpa using hC', hB⟩
      · refine ⟨0, r, s, h.rle, fun w1 hH => refNum_zero w1 a _ c r s o 0 r s q h1 h8 ?_, fun w2 hC => hC.num_short (n := q) (by omega) (by omega) (by omega)⟩
        intro w2 hB x hx
        have hg : getW [(q : Int)] (B.drop r) = .error 1 := by rw [getW_one (by omega) (by omega), if_pos (by omega)]
        exact refRow_err1 w2 a c B (hH.below hB) s o r h.rle (by omega) [(q : Int)] x 1 (by simp) hx hg
    · refine ⟨0, r, f, h.rle, fun w1 _ => refNum_zero w1 a _ c r s o f r f n h1 h8 ?_, fun w2 hC => (hC.num_late hf n).mono fun e w' ⟨he, hB⟩ => ⟨he, hC.below hB, grownBy_more (below_by_none hB)⟩⟩
      intro w2 hB x hx
      exact refRow_late w2 a _ c r s o f _ hf

theorem newly_nil (w1 w2 : World) : Newly w1 w2 none 0 [] := ⟨⟨by simp, by omega, Ints.nil _ _ _, (fun _ h => by cases h), (fun h => absurd h (by omega))⟩, .inl rfl⟩
theorem sub_fail {w1 : World} {n f' : Int} (hf : (f = 0 ∧ f' ≠ 0) ∨ f ≠ 0)
    (hR : ∀ w2, Calls Try.prog 27 #[.agg #[.slice a B.length c, .int .i64 r, .int .i64 s, .int .i64 o, .int .i64 f], .int .i64 n] w2 fun e w' => e = .returned (.tuple #[.agg #[.slice a B.length c, .int .i64 r, .int .i64 s, .int .i64 o, .int .i64 f'], .slice none 0 0]) ∧ Below w2.heap.size w2 w') :
    Calls Try.prog 29 #[.agg #[.slice a B.length c, .int .i64 r, .int .i64 s, .int .i64 o, .int .i64 f], .int .i64 n, .int .i64 263, .int .i64 269] w1 fun e w' => ∃ x y, e = .returned (.tuple #[.agg #[.slice a B.length c, .int .i64 r, .int .i64 s, .int .i64 o, .int .i64 f'], .agg #[.slice x 0 y, .int .i64 0, .int .i64 263, .int .i64 269, .int .i64 0], .bool false]) ∧ Below w1.heap.size w1 w' := by
  refine (refSub_any w1 a B.length c r s o f r f' n 263 269 [] (by rcases hf with h | h; exact .inl h; exact .inr (.inl h)) fun w2 _ => (hR w2).mono fun e w' ⟨he, hB⟩ => ⟨none, 0, he, hB, newly_nil _ _⟩).mono ?_
  rintro e w' ⟨x, y, rfl, hB, _⟩
  refine ⟨x, y, ?_, hB⟩
  have hb : (f == 0 && f' == 0) = false := by rcases hf with ⟨h1, h2⟩ | h <;> simp [*]
  rw [hb]
  rfl

theorem sub_both (h : St w g M a c B r s o f) (n : Int) :
    (∃ f' : Int, 
      (∀ w1, Holds w1 a c B → Calls Try.prog 29 #[.agg #[.slice a B.length c, .int .i64 r, .int .i64 s, .int .i64 o, .int .i64 f], .int .i64 n, .int .i64 263, .int .i64 269] w1 fun e w' => ∃ x y, e = .returned (.tuple #[.agg #[.slice a B.length c, .int .i64 r, .int .i64 s, .int .i64 o, .int .i64 f'], .agg #[.slice x 0 y, .int .i64 0, .int .i64 263, .int .i64 269, .int .i64 0], .bool false]) ∧ Below w1.heap.size w1 w') ∧
      (∀ w2, Cur w2 g M (B.drop r) r s o f → Calls Try.prog 19 #[.pointer (some ⟨g, 0, none⟩), .int .i64 n, .int .i64 263, .int .i64 269] w2 fun e w' => e = .returned (.pointer none) ∧ Cur w' g M (B.drop r) r s o f' ∧ w2.grownBy w' (some g))) ∨
    (f = 0 ∧ ∃ out : List Int, ∃ r' : Nat, r' ≤ B.length ∧ out.length ≤ 2000 ∧ Octets out ∧
      (∀ w1, Holds w1 a c B → Calls Try.prog 29 #[.agg #[.slice a B.length c, .int .i64 r, .int .i64 s, .int .i64 o, .int .i64 f], .int .i64 n, .int .i64 263, .int .i64 269] w1 fun e w' => ∃ a' c', e = .returned (.tuple #[.agg #[.slice a B.length c, .int .i64 r', .int .i64 s, .int .i64 o, .int .i64 0], .agg #[.slice a' out.length c', .int .i64 0, .int .i64 263, .int .i64 269, .int .i64 0], .bool true]) ∧ Below w1.heap.size w1 w' ∧ Newly w1 w' a' c' out) ∧
      (∀ w2, Cur w2 g M (B.drop r) r s o f → M < w2.heap.size → Calls Try.prog 19 #[.pointer (some ⟨g, 0, none⟩), .int .i64 n, .int .i64 263, .int .i64 269] w2 fun e w' => ∃ g', e = .returned (.pointer (some ⟨g', 0, none⟩)) ∧ w2.heap.size ≤ g' ∧ g' < w'.heap.size ∧ Cur w' g' M out (0 : Nat) 263 269 0 ∧ Cur w' g M (B.drop r') r' s o 0 ∧ w2.grownBy w' (some g))) := by
  have hlen := h.len
  have hrle := h.rle
  have hdl : (B.drop r).length = B.length - r := List.length_drop ..
  by_cases hf : f = 0
  · subst hf
    by_cases hn : n < 0
    · exact .inl ⟨10001, fun w1 _ => sub_fail (.inl ⟨rfl, by omega⟩) fun w2 => refBytes_neg w2 a _ c r s o hn, fun w2 hC => hC.sub_neg hn 263 269⟩
    · obtain ⟨q, rfl⟩ := Int.eq_ofNat_of_zero_le (show 0 ≤ n by omega)
      by_cases hq : q ≤ B.length - r
      · have hol : ((B.drop r).take q).length = q := by rw [List.length_take]; omega
        refine .inr ⟨rfl, (B.drop r).take q, r + q, by omega, by omega, (h.hol.oct.drop r).take q, fun w1 hH => (refSub_any w1 a B.length c r s o 0 (r + q) 0 q 263 269 ((B.drop r).take q) (.inr (.inr ⟨rfl, rfl⟩)) fun w2 hB2 => (refBytes_ok w2 a c B (hH.below hB2) s o r q (by omega) (by omega)).mono ?_).mono ?_, fun w2 hC hM => (hC.sub_ok hM (n := q) (by omega) 263 269).mono ?_⟩
        · rintro e w' ⟨a', c', out, ho, _, rfl, hB, hN⟩
          have ho' := ho.out
          subst ho'
          exact ⟨a', c', rfl, hB, hN⟩
        · rintro e w' ⟨a', c', rfl, hB, hN⟩
          exact ⟨a', c', by simp, hB, hN⟩
        · rintro e w' ⟨g', rfl, h1, h2, hC1, hC2, hB⟩
          rw [List.drop_drop] at hC2
          exact ⟨g', rfl, h1, h2, hC1, by simpa using hC2, hB⟩
      · exact .inl ⟨s, fun w1 _ => sub_fail (.inl ⟨rfl, h.sne⟩) fun w2 => refBytes_short w2 a _ c r s o (by omega) (by omega) (by omega) (by omega), fun w2 hC => hC.sub_short (by omega) 263 269⟩
  · refine .inl ⟨f, fun w1 _ => sub_fail (.inr hf) fun w2 => ?_, fun w2 hC => (hC.sub_late hf n 263 269).mono fun e w' ⟨he, hw'⟩ => by subst hw'; exact ⟨he, hC, grownBy_refl _ _⟩⟩
    by_cases hn : n < 0
    · exact refBytes_negL w2 a _ c r s o f hn hf
    · exact refBytes_late w2 a _ c r s o f (by omega) hf
end
end Go.Proofs.Ytgnmkdcoglbafaa
