/- Pure: the constants reckoned, as the document's answer reckons them. -/
import Derived.Test.YtjcfllidandeiaaDoorE
namespace Go.Proofs.YtjcfllidandeiaaDoor

def W64 : Nat := 18446744073709551616

/- the digits of x * x -/
def sqD (x : Nat) : List Nat :=
  let h := x / 262144
  let l := x % 262144
  let c := l * l % 18446744073709551616
  let b := (2 * h % 18446744073709551616 * l % 18446744073709551616 + c / 262144) % 18446744073709551616
  let a := (h * h % 18446744073709551616 + b / 262144) % 18446744073709551616
  [c % 262144, b % 262144, a % 262144, a / 262144, 0, 0, 0, 0]
/- times x, digit by digit -/
def mulE (d : List Nat) (h l : Nat) : Nat → List Nat
  | 0 => zeros 8
  | i + 1 =>
    let e := (mulE d h l i).set i ((at0 (mulE d h l i) i + at0 d i * l % 18446744073709551616) % 18446744073709551616)
    e.set (i + 1) ((at0 e (i + 1) + at0 d i * h % 18446744073709551616) % 18446744073709551616)
/- what is above a digit goes to the next -/
def carE (e : List Nat) : Nat → List Nat
  | 0 => e
  | i + 1 =>
    let f := (carE e i).set (i + 1) ((at0 (carE e i) (i + 1) + at0 (carE e i) i / 262144) % 18446744073709551616)
    f.set i (at0 f i % 262144)
def bound (n : Nat) : List Nat := [0, 0, 0, 0, 0, n * 64 % 18446744073709551616 % 262144, n * 64 % 18446744073709551616 / 262144, 0]
/- held against each other, the highest first -/
def cmpE (e f : List Nat) : Nat → Bool
  | 0 => true
  | i + 1 => if at0 e i ≠ at0 f i then decide (at0 e i < at0 f i) else cmpE e f i
def cubeP (x n : Nat) : Bool := cmpE (carE (mulE (sqD x) (x / 262144) (x % 262144) 4) 7) (bound n) 8

def primeB (n : Nat) : Bool := decide (1 < n) && (List.range 18).all (fun c => decide (c < 2) || decide (n < c * c) || !(n % c == 0))
def rootTo (n : Nat) : Nat → Nat
  | 0 => 0
  | j + 1 => if cubeP (rootTo n j + 2 ^ (35 - j)) n then rootTo n j + 2 ^ (35 - j) else rootTo n j
def rootP (n : Nat) : Nat := rootTo n 36 % 4294967296
def primesTo (p : Nat) : List Nat := (List.range p).filter primeB
def outP (p : Nat) : List Nat := (primesTo p).map rootP

theorem primes312 : (primesTo 312).length = 64 := by decide +kernel
theorem primes311 : (primesTo 311).length = 63 := by decide +kernel
theorem primes_list : primesTo 312 = [2, 3, 5, 7, 11, 13, 17, 19, 23, 29, 31, 37, 41, 43, 47, 53, 59, 61, 67, 71, 73, 79, 83, 89, 97, 101, 103, 107, 109, 113, 127, 131, 137, 139, 149, 151, 157, 163, 167, 173, 179, 181, 191, 193, 197, 199, 211, 223, 227, 229, 233, 239, 241, 251, 257, 263, 269, 271, 277, 281, 283, 293, 307, 311] := by decide +kernel
theorem root2 : rootP 2 = 1116352408 := by decide +kernel
theorem root3 : rootP 3 = 1899447441 := by decide +kernel
theorem root5 : rootP 5 = 3049323471 := by decide +kernel
theorem root7 : rootP 7 = 3921009573 := by decide +kernel
theorem root11 : rootP 11 = 961987163 := by decide +kernel
theorem root13 : rootP 13 = 1508970993 := by decide +kernel
theorem root17 : rootP 17 = 2453635748 := by decide +kernel
theorem root19 : rootP 19 = 2870763221 := by decide +kernel
theorem root23 : rootP 23 = 3624381080 := by decide +kernel
theorem root29 : rootP 29 = 310598401 := by decide +kernel
theorem root31 : rootP 31 = 607225278 := by decide +kernel
theorem root37 : rootP 37 = 1426881987 := by decide +kernel
theorem root41 : rootP 41 = 1925078388 := by decide +kernel
theorem root43 : rootP 43 = 2162078206 := by decide +kernel
theorem root47 : rootP 47 = 2614888103 := by decide +kernel
theorem root53 : rootP 53 = 3248222580 := by decide +kernel
theorem root59 : rootP 59 = 3835390401 := by decide +kernel
theorem root61 : rootP 61 = 4022224774 := by decide +kernel
theorem root67 : rootP 67 = 264347078 := by decide +kernel
theorem root71 : rootP 71 = 604807628 := by decide +kernel
theorem root73 : rootP 73 = 770255983 := by decide +kernel
theorem root79 : rootP 79 = 1249150122 := by decide +kernel
theorem root83 : rootP 83 = 1555081692 := by decide +kernel
theorem root89 : rootP 89 = 1996064986 := by decide +kernel
theorem root97 : rootP 97 = 2554220882 := by decide +kernel
theorem root101 : rootP 101 = 2821834349 := by decide +kernel
theorem root103 : rootP 103 = 2952996808 := by decide +kernel
theorem root107 : rootP 107 = 3210313671 := by decide +kernel
theorem root109 : rootP 109 = 3336571891 := by decide +kernel
theorem root113 : rootP 113 = 3584528711 := by decide +kernel
theorem root127 : rootP 127 = 113926993 := by decide +kernel
theorem root131 : rootP 131 = 338241895 := by decide +kernel
theorem root137 : rootP 137 = 666307205 := by decide +kernel
theorem root139 : rootP 139 = 773529912 := by decide +kernel
theorem root149 : rootP 149 = 1294757372 := by decide +kernel
theorem root151 : rootP 151 = 1396182291 := by decide +kernel
theorem root157 : rootP 157 = 1695183700 := by decide +kernel
theorem root163 : rootP 163 = 1986661051 := by decide +kernel
theorem root167 : rootP 167 = 2177026350 := by decide +kernel
theorem root173 : rootP 173 = 2456956037 := by decide +kernel
theorem root179 : rootP 179 = 2730485921 := by decide +kernel
theorem root181 : rootP 181 = 2820302411 := by decide +kernel
theorem root191 : rootP 191 = 3259730800 := by decide +kernel
theorem root193 : rootP 193 = 3345764771 := by decide +kernel
theorem root197 : rootP 197 = 3516065817 := by decide +kernel
theorem root199 : rootP 199 = 3600352804 := by decide +kernel
theorem root211 : rootP 211 = 4094571909 := by decide +kernel
theorem root223 : rootP 223 = 275423344 := by decide +kernel
theorem root227 : rootP 227 = 430227734 := by decide +kernel
theorem root229 : rootP 229 = 506948616 := by decide +kernel
theorem root233 : rootP 233 = 659060556 := by decide +kernel
theorem root239 : rootP 239 = 883997877 := by decide +kernel
theorem root241 : rootP 241 = 958139571 := by decide +kernel
theorem root251 : rootP 251 = 1322822218 := by decide +kernel
theorem root257 : rootP 257 = 1537002063 := by decide +kernel
theorem root263 : rootP 263 = 1747873779 := by decide +kernel
theorem root269 : rootP 269 = 1955562222 := by decide +kernel
theorem root271 : rootP 271 = 2024104815 := by decide +kernel
theorem root277 : rootP 277 = 2227730452 := by decide +kernel
theorem root281 : rootP 281 = 2361852424 := by decide +kernel
theorem root283 : rootP 283 = 2428436474 := by decide +kernel
theorem root293 : rootP 293 = 2756734187 := by decide +kernel
theorem root307 : rootP 307 = 3204031479 := by decide +kernel
theorem root311 : rootP 311 = 3329325298 := by decide +kernel
theorem out312 : outP 312 = ROOTS := by
  rw [outP, primes_list]
  simp only [List.map_cons, List.map_nil, root2, root3, root5, root7, root11, root13, root17, root19, root23, root29, root31, root37, root41, root43, root47, root53, root59, root61, root67, root71, root73, root79, root83, root89, root97, root101, root103, root107, root109, root113, root127, root131, root137, root139, root149, root151, root157, root163, root167, root173, root179, root181, root191, root193, root197, root199, root211, root223, root227, root229, root233, root239, root241, root251, root257, root263, root269, root271, root277, root281, root283, root293, root307, root311]
  rfl

end Go.Proofs.YtjcfllidandeiaaDoor
