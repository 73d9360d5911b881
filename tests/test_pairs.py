"""Tests of rootladder.pairs: point 5 of the document."""

import unittest

from rootladder import pairs
from rootladder.pairs import times, worth

NUMBERS = [2, 3, 5, 7, 61, 991, 99999, 100000]

PARTS = [0, 1, -1, 2, -3, 10, 2 ** 64, -(10 ** 60) - 7, 10 ** 1200 + 1]
PAIRS = [(x, y) for x in PARTS for y in PARTS]


class Worth(unittest.TestCase):
    def test_worths_that_are_known(self):
        known = [
            (2, (3, 2), 1), (2, (1, 1), -1), (2, (0, 0), 0), (2, (0, 1), -2), (2, (0, -3), -18),
            (2, (5, 0), 25), (2, (-5, 0), 25), (7, (3, 1), 2), (7, (-3, 1), 2), (7, (3, -1), 2), (7, (2, 1), -3),
            (61, (1766319049, 226153980), 1), (100000, (316, 1), -144), (100000, (1, 10 ** 50), 1 - 10 ** 105),
        ]
        for number, pair, wanted in known:
            with self.subTest(number=number, pair=pair):
                self.assertEqual(worth(number, pair), wanted)

    def test_it_is_a_square_less_so_many_squares(self):
        for number in NUMBERS:
            for x, y in PAIRS:
                told = worth(number, (x, y))
                self.assertIs(type(told), int)
                # Added up to the square again, so that the test has its own way.
                self.assertEqual(told + sum([y ** 2] * (number % 100)) + (number - number % 100) * y ** 2, x ** 2)


class Times(unittest.TestCase):
    def test_products_that_are_known(self):
        known = [
            (2, (3, 2), (3, 2), (17, 12)), (2, (1, 1), (1, 1), (3, 2)), (7, (2, 1), (3, 1), (13, 5)),
            (7, (3, 1), (3, -1), (2, 0)), (7, (0, 0), (5, 6), (0, 0)), (7, (1, 0), (-5, 6), (-5, 6)),
            (7, (0, 1), (5, 6), (42, 5)), (100000, (1, 2), (3, 4), (800003, 10)),
        ]
        for number, one, other, wanted in known:
            with self.subTest(number=number, one=one, other=other):
                self.assertEqual(times(number, one, other), wanted)

    def test_the_worth_of_a_product_is_the_product_of_the_worths(self):
        for number in NUMBERS:
            for one in PAIRS:
                for other in PAIRS[::4]:
                    told = times(number, one, other)
                    self.assertEqual(worth(number, told), worth(number, one) * worth(number, other))

    def test_it_is_the_product_with_the_root(self):
        # (x + y r)(u + v r), multiplied out part by part, r r being the number.
        for number in NUMBERS:
            for one in PAIRS[::3]:
                for other in PAIRS[::5]:
                    parts = [0, 0]
                    for left in (0, 1):
                        for right in (0, 1):
                            by = number if left and right else 1
                            parts[(left + right) % 2] += one[left] * other[right] * by
                    self.assertEqual(times(number, one, other), tuple(parts))

    def test_kinds_of_values(self):
        for told in (times(2, (3, 2), (3, 2)), times(7, (0, 0), (0, 0))):
            self.assertIs(type(told), tuple)
            self.assertEqual([type(part) for part in told], [int, int])


class Asking(unittest.TestCase):
    def test_the_arguments_names(self):
        self.assertEqual(worth(number=7, pair=(3, 1)), 2)
        self.assertEqual(times(number=7, one=(2, 1), other=(3, 1)), (13, 5))

    def test_what_is_handed_in_is_as_it_was(self):
        one, other = (2, 1), (3, 1)
        worth(7, one)
        self.assertEqual(times(7, one, other), (13, 5))
        self.assertEqual(times(7, one, one), (11, 4))
        self.assertEqual((one, other), ((2, 1), (3, 1)))

    def test_asking_again_tells_the_same(self):
        for _ in range(2):
            self.assertEqual(worth(7, (3, 1)), 2)
            self.assertEqual(times(7, (2, 1), (3, 1)), (13, 5))
            self.assertEqual(worth(61, (3, 1)), -52)

    def test_functions_are_defined_in_the_file(self):
        for name in ("worth", "times"):
            self.assertEqual(getattr(pairs, name).__module__, "rootladder.pairs")


if __name__ == "__main__":
    unittest.main()
