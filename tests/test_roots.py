"""Tests of rootladder.roots: points 1 and 2 of the document."""

import copy
import unittest

from rootladder import roots
from rootladder.errors import NoNumber, NoRoot, RootError
from rootladder.roots import is_square, whole_root

# Roots whose squares have from one figure to more than a thousand.
BASES = (
    list(range(1, 40))
    + [99, 100, 101, 255, 256, 257, 315, 316, 317, 65535, 65536, 65537]
    + [2 ** 26 - 1, 2 ** 26, 2 ** 26 + 1, 94906265, 94906266, 94906267]
    + [2 ** 31 - 1, 2 ** 31, 2 ** 32 - 1, 2 ** 32, 2 ** 53 - 1, 2 ** 53, 2 ** 53 + 1]
    + [10 ** 30 - 1, 10 ** 30, 10 ** 30 + 1, 10 ** 40 + 7]
    + [123456789012345678901234567890123, 987654321 ** 7]
    + [2 ** 200 - 1, 2 ** 200, 10 ** 154 + 3, 10 ** 155, 10 ** 600 + 9]
)

# Large numbers that are not chosen by their roots.
LARGE = [
    2 ** 63 - 1, 2 ** 64, 2 ** 65, 10 ** 59, 10 ** 61, 10 ** 61 + 1,
    2 * 10 ** 60, 3 ** 130, 3 ** 131, 7 ** 333, 10 ** 309, 2 ** 1023, 2 ** 1024,
    2 ** 4001, 31415926535897932384626433832795028841971693993751058209749445923,
    10 ** 5001, 10 ** 5000 - 1,
]

# What is no number from 0 on, of every kind that the document names.
# The last of the ints has more figures than Python writes out.
WRONG = [
    -1, -2, -4, -9, -10 ** 60, -10 ** 5000,
    True, False, None,
    "", "4", "nine", (), (4,), (1, 2), [], [9], [1, [2]],
    b"", b"4", b"\x00", {}, {4: 2}, {"number": 4},
    4.0, 2.5, -1.0, float("nan"), float("inf"), 4j, {4}, frozenset(), range(4), object(), int,
]


def numbers_near_squares():
    """Every base's square and the numbers right beside it, from 0 on."""
    return [base * base + step for base in BASES for step in (-1, 0, 1)]


class WholeRoot(unittest.TestCase):
    def test_the_first_numbers(self):
        wanted = [0, 1, 1, 1, 2, 2, 2, 2, 2, 3, 3]
        self.assertEqual([whole_root(number) for number in range(11)], wanted)

    def test_squares_and_the_numbers_beside_them(self):
        for base in BASES:
            with self.subTest(bits=base.bit_length()):
                square = base * base
                self.assertEqual(whole_root(square), base)
                self.assertEqual(whole_root(square - 1), base - 1)
                self.assertEqual(whole_root(square + 1), base)
                self.assertEqual(whole_root(square + 2 * base), base)
                self.assertEqual(whole_root(square + 2 * base + 1), base + 1)

    def test_it_is_the_greatest_whole_number(self):
        for number in list(range(5000)) + numbers_near_squares() + LARGE:
            with self.subTest(bits=number.bit_length()):
                root = whole_root(number)
                self.assertIs(type(root), int)
                self.assertGreaterEqual(root, 0)
                self.assertLessEqual(root * root, number)
                self.assertGreater((root + 1) * (root + 1), number)


class IsSquare(unittest.TestCase):
    def test_the_first_numbers(self):
        squares = [number for number in range(101) if is_square(number)]
        self.assertEqual(squares, [0, 1, 4, 9, 16, 25, 36, 49, 64, 81, 100])

    def test_squares_and_the_numbers_beside_them(self):
        for base in BASES:
            with self.subTest(bits=base.bit_length()):
                square = base * base
                self.assertIs(is_square(square), True)
                # 0 is the only square right below another one.
                self.assertIs(is_square(square - 1), base == 1)
                self.assertIs(is_square(square + 1), False)

    def test_it_is_true_just_where_the_whole_roots_square_is_the_number(self):
        for number in list(range(5000)) + numbers_near_squares() + LARGE:
            with self.subTest(bits=number.bit_length()):
                root = whole_root(number)
                self.assertIs(is_square(number), root * root == number)

    def test_large_numbers(self):
        told = {number: is_square(number) for number in LARGE}
        squares = {2 ** 64, 3 ** 130, 2 ** 1024}
        for number in LARGE:
            with self.subTest(bits=number.bit_length()):
                self.assertIs(told[number], number in squares)


class WrongInputs(unittest.TestCase):
    def refusal(self, function, value):
        """What function raises for value, or None; any error counts here."""
        try:
            function(value)
        except Exception as error:
            return error
        return None

    def test_each_is_refused_with_no_number(self):
        for function in (whole_root, is_square):
            for place, value in enumerate(WRONG):
                with self.subTest(function=function.__name__, place=place):
                    error = self.refusal(function, value)
                    self.assertIs(type(error), NoNumber)
                    self.assertNotIsInstance(error, NoRoot)

    def test_the_refusal_is_caught_by_every_class_above(self):
        for function in (whole_root, is_square):
            for place, value in enumerate(WRONG):
                for kind in (NoNumber, RootError, ValueError):
                    with self.subTest(function=function.__name__, place=place, kind=kind.__name__):
                        with self.assertRaises(kind):
                            function(value)

    def test_what_is_handed_in_is_not_changed(self):
        for function in (whole_root, is_square):
            for value in ([9], [1, [2]], {4: 2}, {"number": 4}):
                with self.subTest(function=function.__name__, value=value):
                    before = copy.deepcopy(value)
                    self.refusal(function, value)
                    self.assertEqual(value, before)


class Asking(unittest.TestCase):
    def test_the_argument_is_called_number(self):
        self.assertEqual(whole_root(number=10), 3)
        self.assertIs(is_square(number=9), True)

    def test_asking_again_tells_the_same(self):
        asked = [0, 2, 4, 10 ** 61, 0, 2, 4, 10 ** 61]
        first = [(whole_root(number), is_square(number)) for number in asked]
        # A refusal between the two must leave nothing behind.
        with self.assertRaises(NoNumber):
            whole_root(-1)
        again = [(whole_root(number), is_square(number)) for number in asked]
        self.assertEqual(first, again)
        self.assertEqual(first[:4], first[4:])

    def test_functions_are_defined_in_the_file(self):
        for name in ("whole_root", "is_square"):
            with self.subTest(name=name):
                self.assertEqual(getattr(roots, name).__module__, "rootladder.roots")


if __name__ == "__main__":
    unittest.main()
