/- Bytes that can be divided: the product by bits, and by powers of three. Nothing of the program stands here. -/
import Derived.PlainAid
import Derived.KernelRfl
import Derived.Lib.Hide
namespace Go.Proofs.Ytomojokamaibaaa.MGF
/-- A byte times two. -/
def xt (a : Nat) : Nat := (2 * a) ^^^ ((a / 128) * 283)
/-- One bit of the second factor. -/
def gmTo (a b : Nat) : Nat → Nat
  | 0 => 0
  | n + 1 => (b % 2 * a) ^^^ gmTo (xt a) (b / 2) n
def gm (a b : Nat) : Nat := gmTo a b 8
def expT : Nat := 121466575815500734415996836054882879791832871126464106601702187317037704638720699736399773789881350966450612456712855012027411276600174289287471020404625812305602624065235109912861702064162581238381248958448422203687095403783548669481020115429473714815130546491650907227391014769411226625179674495964331439187933946584331397333639979447433688574122779091165484305754955373075414835846686739481168846087332879005575464100018941681806164995707250399423063311368515928344698269234575261926727907427524598329539937222090466892085999338983806607642276495436692919915470849325341672618663070658392065151738926641076044545
def logT : Nat := 939374623831894136699086600277250597547650664638770418422125146541797353646788332867483593573384618611044815625336497665827114626705134492515730415652478061620339993830966980270842846318821775850471098591710629241171812800746666233448222972174585295916389942636813666312872914849454985560152530477328703759683306625234997237483834721220409437442253146756845415190424543171129629468776480674528486868811725071010351012234056630775688111116293610821126543142160426617079940511630006820862697466582575257349116925728488930366609138264019883664906661504235885380294353134295748489096855100647154935187045898006656778240
def ex (i : Nat) : Nat := expT / 2 ^ (8 * i) % 256
def lg (a : Nat) : Nat := logT / 2 ^ (8 * a) % 256
def tm (a b : Nat) : Nat := if a = 0 ∨ b = 0 then 0 else ex ((lg a + lg b) % 255)
/-- All of a range, in halves. -/
def allB (f : Nat → Bool) : Nat → Nat → Bool
  | 0, a => f a
  | n + 1, a => allB f n a && allB f n (a + 2 ^ n)
theorem allB_of (f : Nat → Bool) : ∀ n a, allB f n a = true → ∀ i, i < 2 ^ n → f (a + i) = true
  | 0, a, h, i, hi => by
    have : i = 0 := by simpa using hi
    subst this
    exact h
  | n + 1, a, h, i, hi => by
    rw [allB, Bool.and_eq_true] at h
    by_cases h1 : i < 2 ^ n
    · exact allB_of f n a h.1 i h1
    · have h2 := allB_of f n (a + 2 ^ n) h.2 (i - 2 ^ n) (by rw [Nat.pow_succ] at hi; omega)
      rw [show a + 2 ^ n + (i - 2 ^ n) = a + i by omega] at h2
      exact h2
def tmB (a b : Nat) : Nat := Nat.rec (motive := fun _ => Nat) 0 (fun _ _ => Nat.rec (motive := fun _ => Nat) 0 (fun _ _ => ex ((lg a + lg b) % 255)) b) a
theorem gm_tm_all : allB (fun a => allB (fun b => Nat.beq (gm a b) (tmB a b)) 8 0) 8 0 = true := by kernel_rfl
end Go.Proofs.Ytomojokamaibaaa.MGF
